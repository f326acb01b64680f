/-
  Texts of these proofs, one behind the other: Scr18.
-/
import Derived.Test.YtnhnphifhkkboaaDoorKSW35
import Derived.Test.YtnhnphifhkkboaaDoorKSW37
namespace Go.Proofs.YtnhnphifhkkboaaDoor
open Go.RowKit Go.Shelf
set_option linter.unusedVariables false
set_option linter.unusedSimpArgs false
set_option maxRecDepth 100000
attribute [local go_sem] Oper.semAt_some
theorem six_far {r b : Nat} {T : TypeId} {cs : Array Value} {w : World} (h : Blk w b T cs) (hne : b ≠ r) (v0 v1 v2 v3 v4 v5 : Value) :
    Blk ((((((w.setCell ⟨r, 0, none⟩ v0).setCell ⟨r, 1, none⟩ v1).setCell ⟨r, 2, none⟩ v2).setCell ⟨r, 3, none⟩ v3).setCell ⟨r, 4, none⟩ v4).setCell ⟨r, 5, none⟩ v5) b T cs :=
  (((((h.far (p := ⟨r, 0, none⟩) hne _).far (p := ⟨r, 1, none⟩) hne _).far (p := ⟨r, 2, none⟩) hne _).far (p := ⟨r, 3, none⟩) hne _).far (p := ⟨r, 4, none⟩) hne _).far (p := ⟨r, 5, none⟩) hne _
theorem six_others (r : Nat) (w : World) (v0 v1 v2 v3 v4 v5 : Value) :
    KeepsOthers w ((((((w.setCell ⟨r, 0, none⟩ v0).setCell ⟨r, 1, none⟩ v1).setCell ⟨r, 2, none⟩ v2).setCell ⟨r, 3, none⟩ v3).setCell ⟨r, 4, none⟩ v4).setCell ⟨r, 5, none⟩ v5) :=
  (((((KeepsOthers.setCell _ _ _).trans (KeepsOthers.setCell _ _ _)).trans (KeepsOthers.setCell _ _ _)).trans (KeepsOthers.setCell _ _ _)).trans (KeepsOthers.setCell _ _ _)).trans (KeepsOthers.setCell _ _ _)
theorem ScrV.kp2 {w w' : World} {L : List Nat} {s : Sv} {P : Ps} (h : ScrV w s P) (k : Kp L w w') (hL : ∀ x ∈ L, ∀ T cs, ¬ Blk w x T cs) : ScrV w' s P := by
  have off : ∀ {A : Option Addr} {e : TypeId}, Typed w A e → ∀ ad, A = some ad → ad.block ∉ L := fun ht ad e hm => by
    obtain ⟨C, hC⟩ := ht ad e
    exact hL _ hm _ _ hC
  have z : ∀ {A : Option Addr} {n c N : Nat} {z : Nat → Int}, SlZ w A n c N z → SlZ w' A n c N z := fun h => ⟨h.1, h.2.1, h.2.2.1, h.2.2.2.1.kp k (off h.2.2.2.2.1), h.2.2.2.2.1.kp k (off h.2.2.2.2.1), h.2.2.2.2.2⟩
  exact ⟨z h.rom, z h.vdc, z h.vce, z h.port, ⟨h.edges.1, h.edges.2.1, h.edges.2.2.1, FRow.kp h.edges.2.2.2.1 k (off h.edges.2.2.2.2.1), h.edges.2.2.2.2.1.kp k (off h.edges.2.2.2.2.1), h.edges.2.2.2.2.2⟩, h.bud⟩
/-- What is no cells stays, but for the map, which is older. -/
theorem TdH.keeps {B g mb D : Nat} {td : Td} {vP vV vC vR vE : Value} {w w' : World} (h : TdH B g mb td vP vV vC vR vE w) (k : Kp (tdL g mb vP vV vC vR vE) w w') (hmb : mb < D) : KeepsFrom D w w' := by
  obtain ⟨ps, _, hp, _⟩ := h.rom
  refine ⟨k.size, fun q o hq ho hc => ?_⟩
  have hlt : q < w.heap.size := (Array.getElem?_eq_some_iff.1 ho).1
  rw [k.block q hlt (fun hm => ?_)]
  · exact ho
  · have nb : ∀ T cs, ¬ Blk w q T cs := fun T cs hb => by
      have h' : w.heap[q]? = some (Obj.cells cs T (0, 0)) := hb
      rw [h'] at ho
      cases ho
      exact absurd hc (by simp [Obj.isCells])
    rcases mem_tdL.1 hm with rfl | rfl | e | e | e | e | e
    · exact nb _ _ h.blk
    · omega
    · obtain ⟨_, c, hb⟩ := own_has hp e; exact nb _ _ hb
    · obtain ⟨_, c, hb⟩ := own_has h.rv e; exact nb _ _ hb
    · obtain ⟨_, c, hb⟩ := own_has h.rc e; exact nb _ _ hb
    · obtain ⟨_, c, hb⟩ := own_has h.rr e; exact nb _ _ hb
    · obtain ⟨_, c, hb⟩ := own_has h.re e; exact nb _ _ hb
set_option maxHeartbeats 16000000 in
theorem scparse_any (t : ByteArray) (w : World) (hN : NmT w) : Calls Tryd.prog 16 #[.string t] w fun e w' => ParseR (parseE t) (parseS t) w e w' := by
  by_cases hbig : 200000 < t.size
  · have hE : parseE t = (2, 0) := by unfold parseE; rw [if_pos hbig]
    rw [hE]
    have i1 : (200000 : Int) < t.size := by omega
    go_enter Tryd.func16, Tryd.ntmps16
    go_wp2_with fail
    have hf : Blk ((w.alloc (.cells #[.slice none 0 0, .slice none 0 0, .slice none 0 0, .slice none 0 0, .slice none 0 0, .int .i64 0] 27)).alloc (.cells #[.int .i64 2, .int .i64 0] 34)) (w.heap.size + 1) 34 #[.int .i64 2, .int .i64 0] := Blk.new_ (by simp)
    have hr : Blk ((w.alloc (.cells #[.slice none 0 0, .slice none 0 0, .slice none 0 0, .slice none 0 0, .slice none 0 0, .int .i64 0] 27)).alloc (.cells #[.int .i64 2, .int .i64 0] 34)) w.heap.size 27 #[.slice none 0 0, .slice none 0 0, .slice none 0 0, .slice none 0 0, .slice none 0 0, .int .i64 0] := (Blk.new _ _ _).alloc _
    refine bodyPost_ret (results_cell2 (a := ⟨w.heap.size, 0, none⟩) (b := ⟨w.heap.size + 1, 0, none⟩) Tryd.results16 (by rfl) (hr.run_load (P := Tryd.prog) Tryd.underlying27 rfl sizeS) (by rfl) (hf.run_load (P := Tryd.prog) Tryd.underlying34 rfl sizeF)) rfl ?_
    exact ⟨((Below.refl _ w).alloc (Nat.le_refl _) _).alloc (by simp) _, Or.inl ⟨by decide, rfl⟩⟩
  · obtain ⟨EE, hEE⟩ : ∃ E, parseE t = E := ⟨_, rfl⟩
    obtain ⟨PP, hPP⟩ : ∃ P, parseS t = P := ⟨_, rfl⟩
    rw [hEE, hPP]
    have HEE := Lib.hid hEE
    have HPP := Lib.hid hPP
    have HN := Lib.hid hN
    have i1 : ¬ (200000 : Int) < t.size := by omega
    have ht : t.size ≤ 200000 := by omega
    clear hEE hPP hN hbig
    refine (callsIn_wide (n := 6)).1 ?_
    refine callsIn_of_wp_marks Tryd.func16 rfl trivial ?_ rfl
    simp only [Tryd.ntmps16, List.size_toArray, List.length_cons, List.length_nil, Nat.reduceAdd, Nat.reduceSub, Array.replicate_succ, Array.replicate_zero, List.push_toArray, List.append_toArray, List.nil_append, List.cons_append]
    have hmm := @run_makeMap Tryd.prog
    gi_wp2
    refine ⟨trivial, callsIn_wide.2 ?_⟩
    have hr4 : Blk ((((w.alloc (.cells #[.slice none 0 0, .slice none 0 0, .slice none 0 0, .slice none 0 0, .slice none 0 0, .int .i64 0] 27)).alloc (.cells #[.int .i64 0, .int .i64 0] 34)).alloc (.map #[] 0)).alloc (.cells #[.map (some (w.heap.size + 1 + 1)), .slice none 0 0, .slice none 0 0, .slice none 0 0, .slice none 0 0, .slice none 0 0] 84)) w.heap.size 27 sv0.cs := (((Blk.new w _ _).alloc _).alloc _).alloc _
    have hf4 : Blk ((((w.alloc (.cells #[.slice none 0 0, .slice none 0 0, .slice none 0 0, .slice none 0 0, .slice none 0 0, .int .i64 0] 27)).alloc (.cells #[.int .i64 0, .int .i64 0] 34)).alloc (.map #[] 0)).alloc (.cells #[.map (some (w.heap.size + 1 + 1)), .slice none 0 0, .slice none 0 0, .slice none 0 0, .slice none 0 0, .slice none 0 0] 84)) (w.heap.size + 1) 34 #[.int .i64 0, .int .i64 0] := ((Blk.new_ (by simp)).alloc _).alloc _
    have hg4 : Blk ((((w.alloc (.cells #[.slice none 0 0, .slice none 0 0, .slice none 0 0, .slice none 0 0, .slice none 0 0, .int .i64 0] 27)).alloc (.cells #[.int .i64 0, .int .i64 0] 34)).alloc (.map #[] 0)).alloc (.cells #[.map (some (w.heap.size + 1 + 1)), .slice none 0 0, .slice none 0 0, .slice none 0 0, .slice none 0 0, .slice none 0 0] 84)) (w.heap.size + 1 + 1 + 1) 84 #[.map (some (w.heap.size + 1 + 1)), .slice none 0 0, .slice none 0 0, .slice none 0 0, .slice none 0 0, .slice none 0 0] := Blk.new_ (by simp)
    have hm4 : World.ownsMap ((((w.alloc (.cells #[.slice none 0 0, .slice none 0 0, .slice none 0 0, .slice none 0 0, .slice none 0 0, .int .i64 0] 27)).alloc (.cells #[.int .i64 0, .int .i64 0] 34)).alloc (.map #[] 0)).alloc (.cells #[.map (some (w.heap.size + 1 + 1)), .slice none 0 0, .slice none 0 0, .slice none 0 0, .slice none 0 0, .slice none 0 0] 84)) Tryd.prog 9 SH (w.heap.size + 1 + 1) 2 (.map []) := by
      have h := World.ownsMap_made ((w.alloc (.cells #[.slice none 0 0, .slice none 0 0, .slice none 0 0, .slice none 0 0, .slice none 0 0, .int .i64 0] 27)).alloc (.cells #[.int .i64 0, .int .i64 0] 34)) Tryd.prog 9 SH
      have h2 := (h.mono (n' := 2) (by omega)).alloc (.cells #[.map (some (w.heap.size + 1 + 1)), .slice none 0 0, .slice none 0 0, .slice none 0 0, .slice none 0 0, .slice none 0 0] 84)
      simpa using h2
    have hB4 : Below w.heap.size w ((((w.alloc (.cells #[.slice none 0 0, .slice none 0 0, .slice none 0 0, .slice none 0 0, .slice none 0 0, .int .i64 0] 27)).alloc (.cells #[.int .i64 0, .int .i64 0] 34)).alloc (.map #[] 0)).alloc (.cells #[.map (some (w.heap.size + 1 + 1)), .slice none 0 0, .slice none 0 0, .slice none 0 0, .slice none 0 0, .slice none 0 0] 84)) := ((((Below.refl _ w).alloc (Nat.le_refl _) _).alloc (by simp) _).alloc (by simp; omega) _).alloc (by simp; omega) _
    have hs4 : (World.heap ((((w.alloc (.cells #[.slice none 0 0, .slice none 0 0, .slice none 0 0, .slice none 0 0, .slice none 0 0, .int .i64 0] 27)).alloc (.cells #[.int .i64 0, .int .i64 0] 34)).alloc (.map #[] 0)).alloc (.cells #[.map (some (w.heap.size + 1 + 1)), .slice none 0 0, .slice none 0 0, .slice none 0 0, .slice none 0 0, .slice none 0 0] 84))).size = w.heap.size + 4 := by simp
    generalize World.alloc (World.alloc (World.alloc (World.alloc w _) _) _) _ = w4 at *
    have hT4 := td0_new (B := w.heap.size) hg4 (by omega) (by omega) hm4
    have hN4 := HN.out.below hB4 HN.out.1
    clear hg4 hm4 hmm
    refine (scsplit_any t w4).mono ?_
    rintro e w5 ⟨rfl, hw5⟩
    have hb5 : Blk w5 w4.heap.size 9 #[.string t] := hw5 ▸ Blk.new _ _ _
    have hr5 : Blk w5 w.heap.size 27 sv0.cs := hw5 ▸ hr4.alloc _
    have hf5 : Blk w5 (w.heap.size + 1) 34 #[.int .i64 0, .int .i64 0] := hw5 ▸ hf4.alloc _
    have hT5 := hT4.below (hw5 ▸ (Below.refl _ w4).alloc (Nat.le_refl _) (.cells #[.string t] 9) : Below w4.heap.size w4 w5)
    have hB5 : Below w.heap.size w w5 := hw5 ▸ hB4.alloc hB4.size _
    have hN5 := HN.out.below hB5 HN.out.1
    have hs5 : w5.heap.size = w.heap.size + 5 := by rw [hw5]; simp; omega
    rw [hs4]
    rw [hs4] at hb5
    clear hw5 hr4 hf4 hT4 hB4 hN4 hs4
    have HI5 := Lib.hid (And.intro hr5 (And.intro hf5 (And.intro hT5 (And.intro hB5 hN5))))
    have HS5 := Lib.hid hs5
    have HB5 := Lib.hid hb5
    clear hr5 hf5 hT5 hB5 hN5 hs5 hb5
    gi_wp2
    refine wpIn_rangeFunc_ownH rfl (by omega) (gf := 92) (lb := #[.pointer (some ⟨w.heap.size + 4, 0, none⟩)]) rfl trivial (enters_of Tryd.func92 (by kernel_rfl) rfl)
      (split_stops 5 (by omega) t (by omega) (w.heap.size + 4) w5 HB5.out) (fun _ _ => trivial) (fun _ _ _ _ _ _ _ _ => trivial) (Below.refl _ _) (fun _ => rfl)
      (fun pre W1 => (∃ td vP vV vC vR vE, foldL t pre td0 = ((0, 0), td) ∧ TdW td ∧ TdOk (pre.length * 200000) td ∧ TdH w.heap.size (w.heap.size + 1 + 1 + 1) (w.heap.size + 1 + 1) td vP vV vC vR vE W1 ∧ Blk W1 w.heap.size 27 sv0.cs ∧ Blk W1 (w.heap.size + 1) 34 #[.int .i64 0, .int .i64 0]) ∧ Below w.heap.size w W1)
      (fun c pre W1 => (c = .ret ∧ ∃ E : Int × Int, E.1 ≠ 0 ∧ (foldL t pre td0).1 = E ∧ Blk W1 w.heap.size 27 sv0.cs ∧ Blk W1 (w.heap.size + 1) 34 #[.int .i64 E.1, .int .i64 E.2]) ∧ Below w.heap.size w W1)
      (OwnFrom.and (fun z X Y row hs hg hr => by
        obtain ⟨td, vP, vV, vC, vR, vE, e1, e2, e3, e4, e5, e6⟩ := hs
        have hS := HS5.out
        refine ⟨td, vP, vV, vC, vR, vE, e1, e2, e3, e4.kp2 (L := row.toList) (Kp.of_grown hg (fun q hq => by simp [hq])) (fun hm => ?_) (fun x hx T cs hb => ?_), scblk_own e5 hg (fun q hq => (hr q hq).2), scblk_own e6 hg (fun q hq => (hr q hq).2)⟩
        · have := (hr _ (by simpa using hm)).1; omega
        · obtain ⟨o, ho, hc⟩ := (hr x (by simpa using hx)).2
          have h' : X.heap[x]? = some (Obj.cells cs T (0, 0)) := hb
          rw [h'] at ho
          cases ho
          exact absurd hc (by simp [Obj.isCells])) (ownFrom_below (Nat.le_refl _) (by have := HS5.out; omega)))
      (fun c => OwnFrom.and (Own.from (fun z X Y row hs hg hr => by
        obtain ⟨h1, E, h2, h3, h4, h5⟩ := hs
        exact ⟨h1, E, h2, h3, scblk_own h4 hg hr, scblk_own h5 hg hr⟩) _) (ownFrom_below (Nat.le_refl _) (by have := HS5.out; omega)))
      ⟨⟨td0, _, _, _, _, _, rfl, tdW0, tdOk0 _, HI5.out.2.2.1, HI5.out.1, HI5.out.2.1⟩, HI5.out.2.2.2.1⟩
      (fun x a' W => ∃ Bx, Blk W Bx 89 #[.int .i64 (x.k : Int), .string (t.extract x.a x.b), .bool (decide (x.b < t.size))] ∧ a' = { tmps := #[.string t, undef, .pointer (some ⟨w.heap.size, 0, none⟩), .pointer (some ⟨w.heap.size + 1, 0, none⟩), .pointer (some ⟨w.heap.size + 1 + 1 + 1, 0, none⟩), .pointer (some ⟨Bx, 0, none⟩), undef, undef, undef, .string t, .int .i64 (t.size : Int), .bool false, undef, undef, .map (some (w.heap.size + 1 + 1)), .agg #[.map (some (w.heap.size + 1 + 1)), .slice none 0 0, .slice none 0 0, .slice none 0 0, .slice none 0 0, .slice none 0 0], .string t, .func (.func 92) #[] #[.pointer (some ⟨w.heap.size + 4, 0, none⟩)], .agg #[.int .i64 (x.k : Int), .string (t.extract x.a x.b), .bool (decide (x.b < t.size))], undef, undef, undef, undef, undef, undef, undef, undef, undef, undef, undef, undef, undef, undef, undef, undef], defers := [] })
      (fun x a' _ X Y row hs hg hr => by obtain ⟨Bx, h2, h3⟩ := hs; exact ⟨Bx, scblk_own h2 hg (fun r e => (hr r e).2), h3⟩)
      ?assign ?body ?done ?stop
    case assign =>
      rintro l pre x W K ⟨⟨td, vP, vV, vC, vR, vE, e1, e2, e3, e4, e5, e6⟩, hB1⟩ hK
      unfold rwV
      gi_wp2
      exact hK _ _ ((KeepsOthers.alloc _ _).from _) trivial ⟨⟨td, vP, vV, vC, vR, vE, e1, e2, e3, e4.below ((Below.refl _ W).alloc (Nat.le_refl _) _), e5.alloc _, e6.alloc _⟩, hB1.alloc hB1.size _⟩ ⟨W.heap.size, Blk.new W _ _, rfl⟩
    case body =>
      rintro l pre x a' W1 hl ⟨lr, hlr⟩ ⟨⟨td, vP, vV, vC, vR, vE, e1, e2, e3, e4, e5, e6⟩, hB1⟩ ⟨Bx, bX, rfl⟩ hlt
      have d0 : W1.cell? ⟨Bx, 0, none⟩ = some (.int .i64 (x.k : Int)) := bX.cell 0
      have d1 : W1.cell? ⟨Bx, 1, none⟩ = some (.string (t.extract x.a x.b)) := bX.cell 1
      have d2 : W1.cell? ⟨Bx, 2, none⟩ = some (.bool (decide (x.b < t.size))) := bX.cell 2
      have hpl : pre.length * 200000 ≤ 40000000000 := by
        have := rowsK_len t t.size 0 1
        have : (rowsT t).length ≤ t.size := this
        have h2 : pre.length ≤ 200000 := by omega
        omega
      have hxs : (t.extract x.a x.b).size ≤ 200000 := by rw [ByteArray.size_extract]; omega
      have hsum : pre.length * 200000 + (t.extract x.a x.b).size ≤ 100000000000 := Nat.le_trans (Nat.add_le_add hpl hxs) (by decide)
      have hxs2 : (t.extract x.a x.b).size ≤ 1000000 := Nat.le_trans hxs (by decide)
      have HT := sctake_any e4 (HN.out.below hB1 HN.out.1) HN.out.1 hB1.size e3 (x.k : Int) (t.extract x.a x.b) (decide (x.b < t.size)) hxs2 hsum
      have hst : (if decide (x.b < t.size) = true then take1 (lineW (t.extract x.a x.b)) td else (3, td)) = stepR t x td := by unfold stepR; simp only [decide_eq_true_eq]
      rw [hst] at HT
      have hone := foldL_one t pre x td0 td e1
      have hok := fun hz => stepR_ok (t := t) (x := x) e2 e3 (Nat.le_trans hpl (by decide)) ht hz
      obtain ⟨rr, hrr⟩ : ∃ rr, stepR t x td = rr := ⟨_, rfl⟩
      rw [hrr] at HT hone hok
      have HTT := Lib.hid HT
      have HONE := Lib.hid hone
      have HOK := Lib.hid hok
      have HH := Lib.hid (And.intro e4 (And.intro e5 (And.intro e6 (And.intro hB1 bX))))
      clear HT hst hone hok hrr hsum hxs2 e1 e2 e3 e4 e5 e6 hB1 bX hpl hxs
      gi_wp2
      refine ⟨trivial, callsIn_wide.2 ?_⟩
      refine HTT.out.mono ?_
      rintro e W2 ⟨rfl, kk, hfin⟩
      obtain ⟨rv, rtd⟩ := rr
      dsimp only at hfin
      have KF := HH.out.1.keeps kk (D := w5.heap.size) (by have := HS5.out; omega)
      have R2 := Lib.hid (HH.out.2.1.kp kk (HH.out.1.off HH.out.2.1 (by decide) (by decide) (by decide) (by decide)))
      have F2 := Lib.hid (HH.out.2.2.1.kp kk (HH.out.1.off HH.out.2.2.1 (by decide) (by decide) (by decide) (by decide)))
      have X2 := Lib.hid (HH.out.2.2.2.2.kp kk (HH.out.1.off HH.out.2.2.2.2 (by decide) (by decide) (by decide) (by decide)))
      have B2 := Lib.hid (HH.out.2.2.2.1.trans (kk.below HH.out.2.2.2.1.size HH.out.1.ge))
      by_cases hz : rv = 0
      · subst hz
        obtain ⟨a1, a2, a3, a4, a5, a6, a7⟩ := hfin rfl
        have FIN : Hid ((∃ td vP vV vC vR vE, foldL t (pre ++ [x]) td0 = ((0, 0), td) ∧ TdW td ∧ TdOk ((pre ++ [x]).length * 200000) td ∧ TdH w.heap.size (w.heap.size + 1 + 1 + 1) (w.heap.size + 1 + 1) td vP vV vC vR vE W2 ∧ Blk W2 w.heap.size 27 sv0.cs ∧ Blk W2 (w.heap.size + 1) 34 #[.int .i64 0, .int .i64 0]) ∧ Below w.heap.size w W2) := Lib.hid
          ⟨⟨rtd, a1, a2, a3, a4, a5, by rw [HONE.out, if_pos rfl], (HOK.out rfl).1, (HOK.out rfl).2.more (by rw [List.length_append, List.length_singleton]; omega), a6, R2.out, F2.out⟩, B2.out⟩
        have KFH := Lib.hid KF
        clear a6 a7 KF hfin kk d0 d1 d2 HTT
        gi_wp2
        exact ⟨KFH.out, trivial, FIN.out⟩
      · have e1 : (rv == 0) = false := by rw [beq_eq_false_iff_ne]; exact hz
        have KFH := Lib.hid KF
        have HNZ := Lib.hid hz
        clear KF hfin kk d0 d1 d2 HTT hz
        gi_wp2
        refine rr_begin (S := fun w' => w'.cell? ⟨Bx, 0, none⟩ = some (.int .i64 (x.k : Int))) 7 #[false, false, false, false, false, false, false] (by kernel_rfl) (by kernel_rfl) (by kernel_rfl) ?_ (fun hHeld => ?_)
        · exact X2.out.cell 0
        refine rr_take (i := 0) (d := some 23) (l := #[true, false, false, false, false, false, false]) (fuel := 6) (v := ?_) (fun _ => trivial) (by kernel_rfl) rfl (by kernel_rfl) (by kernel_rfl) (by kernel_rfl) (by kernel_rfl) (by kernel_rfl) (fun _ _ _ h => h) (by kernel_rfl) ?_ (by assumption) ?_
        rotate_left 1
        · (intro wS hSw; (try dsimp only at hSw); go_simp; try with_reducible rfl)
        try simp only [Act.put, List.setIfInBounds_toArray, List.set_cons_zero, List.set_cons_succ]
        refine rr_take (i := 1) (d := some 24) (l := #[true, true, false, false, false, false, false]) (fuel := 5) (v := ?_) (fun _ => trivial) (by kernel_rfl) rfl (by kernel_rfl) (by kernel_rfl) (by kernel_rfl) (by kernel_rfl) (by kernel_rfl) (fun _ _ _ h => h) (by kernel_rfl) ?_ (by assumption) ?_
        rotate_left 1
        · (intro wS hSw; (try dsimp only at hSw); go_simp; try with_reducible rfl)
        try simp only [Act.put, List.setIfInBounds_toArray, List.set_cons_zero, List.set_cons_succ]
        refine rr_take (i := 2) (d := some 25) (l := #[true, true, true, false, false, false, false]) (fuel := 4) (v := ?_) (fun _ => trivial) (by kernel_rfl) rfl (by kernel_rfl) (by kernel_rfl) (by kernel_rfl) (by kernel_rfl) (by kernel_rfl) (fun _ _ _ h => h) (by kernel_rfl) ?_ (by assumption) ?_
        rotate_left 1
        · (intro wS hSw; (try dsimp only at hSw); go_simp; try with_reducible rfl)
        try simp only [Act.put, List.setIfInBounds_toArray, List.set_cons_zero, List.set_cons_succ]
        refine rr_take (i := 3) (d := some 26) (l := #[true, true, true, true, false, false, false]) (fuel := 3) (v := ?_) (fun _ => trivial) (by kernel_rfl) rfl (by kernel_rfl) (by kernel_rfl) (by kernel_rfl) (by kernel_rfl) (by kernel_rfl) (fun _ _ _ h => h) (by kernel_rfl) ?_ (by assumption) ?_
        rotate_left 1
        · (intro wS hSw; (try dsimp only at hSw); go_simp; try with_reducible rfl)
        try simp only [Act.put, List.setIfInBounds_toArray, List.set_cons_zero, List.set_cons_succ]
        refine rr_take (i := 4) (d := some 27) (l := #[true, true, true, true, true, false, false]) (fuel := 2) (v := ?_) (fun _ => trivial) (by kernel_rfl) rfl (by kernel_rfl) (by kernel_rfl) (by kernel_rfl) (by kernel_rfl) (by kernel_rfl) (fun _ _ _ h => h) (by kernel_rfl) ?_ (by assumption) ?_
        rotate_left 1
        · (intro wS hSw; (try dsimp only at hSw); go_simp; try with_reducible rfl)
        try simp only [Act.put, List.setIfInBounds_toArray, List.set_cons_zero, List.set_cons_succ]
        have RD := Lib.hid (R2.out.kp (Kp.refl [] _).drew (by simp))
        have FD := Lib.hid (F2.out.kp (Kp.refl [] _).drew (by simp))
        have XD := Lib.hid (X2.out.kp (Kp.refl [] _).drew (by simp))
        have BD := Lib.hid (below_drew_ B2.out)
        have KD : Hid (KeepsFrom w5.heap.size W1 W2.drew) := Lib.hid ⟨KFH.out.size, KFH.out.same⟩
        clear R2 F2 X2 B2 KFH
        generalize World.drew W2 = wD at *
        have d0 : wD.cell? ⟨w.heap.size, 0, none⟩ = some (.slice none 0 0) := RD.out.cell 0
        have y0 : wD.frozen? ⟨w.heap.size, 0, none⟩ = false := RD.out.frozen 0
        have d1 : wD.cell? ⟨w.heap.size, 1, none⟩ = some (.slice none 0 0) := RD.out.cell 1
        have y1 : wD.frozen? ⟨w.heap.size, 1, none⟩ = false := RD.out.frozen 1
        have d2 : wD.cell? ⟨w.heap.size, 2, none⟩ = some (.slice none 0 0) := RD.out.cell 2
        have y2 : wD.frozen? ⟨w.heap.size, 2, none⟩ = false := RD.out.frozen 2
        have d3 : wD.cell? ⟨w.heap.size, 3, none⟩ = some (.slice none 0 0) := RD.out.cell 3
        have y3 : wD.frozen? ⟨w.heap.size, 3, none⟩ = false := RD.out.frozen 3
        have d4 : wD.cell? ⟨w.heap.size, 4, none⟩ = some (.slice none 0 0) := RD.out.cell 4
        have y4 : wD.frozen? ⟨w.heap.size, 4, none⟩ = false := RD.out.frozen 4
        have d5 : wD.cell? ⟨w.heap.size, 5, none⟩ = some (.int .i64 0) := RD.out.cell 5
        have y5 : wD.frozen? ⟨w.heap.size, 5, none⟩ = false := RD.out.frozen 5
        have bxr : Bx ≠ w.heap.size := fun e => XD.out.ne_ (e ▸ RD.out) (by decide) rfl
        have bxf : Bx ≠ w.heap.size + 1 := fun e => XD.out.ne_ (e ▸ FD.out) (by decide) rfl
        have hzs := zero_six RD.out BD.out (Nat.le_refl _) (.slice none 0 0) (.slice none 0 0) (.slice none 0 0) (.slice none 0 0) (.slice none 0 0) (.int .i64 0)
        have X6 := Lib.hid (six_far XD.out bxr (.slice none 0 0) (.slice none 0 0) (.slice none 0 0) (.slice none 0 0) (.slice none 0 0) (.int .i64 0))
        have F6 := Lib.hid (six_far FD.out (show w.heap.size + 1 ≠ w.heap.size by omega) (.slice none 0 0) (.slice none 0 0) (.slice none 0 0) (.slice none 0 0) (.slice none 0 0) (.int .i64 0))
        have R6 := Lib.hid hzs.2
        have B6 := Lib.hid hzs.1
        have K6 := Lib.hid (six_others w.heap.size wD (.slice none 0 0) (.slice none 0 0) (.slice none 0 0) (.slice none 0 0) (.slice none 0 0) (.int .i64 0))
        clear hzs
        refine rr_last (i := 5) (l := #[true, true, true, true, true, true, false]) (fuel := 1) (by kernel_rfl) rfl (by kernel_rfl) (by kernel_rfl) (fun K hK => ?_)
        unfold Oper.wpIn
        refine ⟨fun _ _ => trivial, ?_⟩
        go_simp
        refine hK.out _ _ ?_ (fun hHeld => ?_)
        · (try dsimp only); exact X6.out.cell 0
        clear hK K
        try simp only [Act.put, List.setIfInBounds_toArray, List.set_cons_zero, List.set_cons_succ]
        clear d0 d1 d2 d3 d4 d5 y0 y1 y2 y3 y4 y5
        obtain ⟨w6, hw6⟩ : ∃ v, ((((((wD.setCell ⟨w.heap.size, 0, none⟩ (.slice none 0 0)).setCell ⟨w.heap.size, 1, none⟩ (.slice none 0 0)).setCell ⟨w.heap.size, 2, none⟩ (.slice none 0 0)).setCell ⟨w.heap.size, 3, none⟩ (.slice none 0 0)).setCell ⟨w.heap.size, 4, none⟩ (.slice none 0 0)).setCell ⟨w.heap.size, 5, none⟩ (.int .i64 0)) = v := ⟨_, rfl⟩
        rw [hw6] at X6 F6 R6 B6 K6 ⊢
        clear hw6
        have f0 : w6.cell? ⟨w.heap.size + 1, 0, none⟩ = some (.int .i64 0) := F6.out.cell 0
        have f1 : w6.cell? ⟨w.heap.size + 1, 1, none⟩ = some (.int .i64 0) := F6.out.cell 1
        have g0 : w6.frozen? ⟨w.heap.size + 1, 0, none⟩ = false := F6.out.frozen 0
        have g1 : w6.frozen? ⟨w.heap.size + 1, 1, none⟩ = false := F6.out.frozen 1
        refine rr_last (i := 6) (l := #[true, true, true, true, true, true, true]) (fuel := 0) (by kernel_rfl) rfl (by kernel_rfl) (by kernel_rfl) (fun K hK => ?_)
        unfold Oper.wpIn
        refine ⟨fun _ _ => trivial, ?_⟩
        go_simp
        refine hK.out _ _ ?_ (fun hHeld => ?_)
        · (try dsimp only); exact ((X6.out.far (p := ⟨w.heap.size + 1, 0, none⟩) bxf _).far (p := ⟨w.heap.size + 1, 1, none⟩) bxf _).cell 0
        clear hK K
        try simp only [Act.put, List.setIfInBounds_toArray, List.set_cons_zero, List.set_cons_succ]
        refine rr_done (by kernel_rfl) ?_ _
        have KO : KeepsOthers wD ((w6.setCell ⟨w.heap.size + 1, 0, none⟩ (.int .i64 rv)).setCell ⟨w.heap.size + 1, 1, none⟩ (.int .i64 (x.k : Int))) := (K6.out.trans (KeepsOthers.setCell _ _ _)).trans (KeepsOthers.setCell _ _ _)
        have KFIN : KeepsFrom w5.heap.size W1 ((w6.setCell ⟨w.heap.size + 1, 0, none⟩ (.int .i64 rv)).setCell ⟨w.heap.size + 1, 1, none⟩ (.int .i64 (x.k : Int))) := ⟨Nat.le_trans KD.out.size KO.size, fun q o hq ho hc => KO.same q o (KD.out.same q o hq ho hc) hc⟩
        have FB : Blk ((w6.setCell ⟨w.heap.size + 1, 0, none⟩ (.int .i64 rv)).setCell ⟨w.heap.size + 1, 1, none⟩ (.int .i64 (x.k : Int))) (w.heap.size + 1) 34 #[.int .i64 rv, .int .i64 (x.k : Int)] := (F6.out.set_ 0 _).set_ 1 _
        have RB : Blk ((w6.setCell ⟨w.heap.size + 1, 0, none⟩ (.int .i64 rv)).setCell ⟨w.heap.size + 1, 1, none⟩ (.int .i64 (x.k : Int))) w.heap.size 27 sv0.cs := (R6.out.far (p := ⟨w.heap.size + 1, 0, none⟩) (by simp) _).far (p := ⟨w.heap.size + 1, 1, none⟩) (by simp) _
        have BB := below_set2 B6.out (Nat.le_succ _) (.int .i64 rv) (.int .i64 (x.k : Int))
        gi_wp2
        exact ⟨KFIN, ⟨rfl, (rv, (x.k : Int)), HNZ.out, by rw [HONE.out, if_neg HNZ.out], RB, FB⟩, BB⟩
    case done =>
      rintro D xs W1 hD rfl ⟨⟨td, vP, vV, vC, vR, vE, e1, e2, e3, e4, e5, e6⟩, hB1⟩ hK
      have hrl : (rowsT t).length * 200000 ≤ 100000000000 := by
        have : (rowsT t).length ≤ t.size := rowsK_len t t.size 0 1
        omega
      have HSC := Lib.hid (scscript_any e4 e2 e3 hrl)
      have hEE : EE = (scrE td, 0) := by
        rw [← HEE.out]; unfold parseE; rw [if_neg (by omega), e1]; simp
      have hPP : PP = psT td := by
        rw [← HPP.out]; unfold parseS; rw [e1]
      have RH := Lib.hid (And.intro e5 (And.intro e6 (And.intro hB1 hK)))
      have HEQ := Lib.hid (And.intro hEE hPP)
      clear e1 e2 e3 e4 e5 e6 hB1 hK hEE hPP hrl
      gi_wp2
      refine ⟨trivial, callsIn_wide.2 ?_⟩
      refine HSC.out.mono ?_
      rintro e W2 ⟨b2, hcase⟩
      obtain ⟨EV, hEV⟩ : ∃ v, scrE td = v := ⟨_, rfl⟩
      obtain ⟨s, rfl, hs⟩ : ∃ s, e = .returned (.tuple #[.agg s.cs, .int .i64 EV]) ∧ ((EV ≠ 0 ∧ s = sv0) ∨ (EV = 0 ∧ ScrV W2 s (psT td) ∧ SvOk s)) := by
        rw [← hEV]
        rcases hcase with ⟨h1, rfl⟩ | ⟨h1, s, rfl, h2, h3⟩
        · exact ⟨sv0, rfl, Or.inl ⟨h1, rfl⟩⟩
        · exact ⟨s, by rw [h1], Or.inr ⟨h1, h2, h3⟩⟩
      have hEQ := HEQ.out
      rw [hEV] at hEQ
      have R2 := RH.out.1.below b2 RH.out.1.lt
      have F2 := RH.out.2.1.below b2 RH.out.2.1.lt
      have B2 := RH.out.2.2.1.trans (b2.mono RH.out.2.2.1.size)
      have K2 : W2.heap[D]? = some (.deferred (some [])) := (b2.block D (Array.getElem?_eq_some_iff.1 RH.out.2.2.2).1).trans RH.out.2.2.2
      have HS := Lib.hid hs
      have HEQ2 := Lib.hid hEQ
      clear hcase b2 hs hEQ hEV HSC HEQ
      obtain ⟨A, n, ca, V, a, cv, C, b, cc, R, c, cr, E, m, ce, bud⟩ := s
      unfold Sv.cs
      dsimp only
      have R3 := Lib.hid (R2.alloc (.cells #[.slice A n ca, .slice V a cv, .slice C b cc, .slice R c cr, .slice E m ce, .int .i64 bud] 27))
      have F3 := Lib.hid (F2.alloc (.cells #[.slice A n ca, .slice V a cv, .slice C b cc, .slice R c cr, .slice E m ce, .int .i64 bud] 27))
      have B3 := Lib.hid (B2.alloc B2.size (.cells #[.slice A n ca, .slice V a cv, .slice C b cc, .slice R c cr, .slice E m ce, .int .i64 bud] 27))
      have K3 := Lib.hid ((KeepsOthers.alloc W2 (.cells #[.slice A n ca, .slice V a cv, .slice C b cc, .slice R c cr, .slice E m ce, .int .i64 bud] 27)).same D _ K2 rfl)
      have S3 : Hid (ScrV W2 ⟨A, n, ca, V, a, cv, C, b, cc, R, c, cr, E, m, ce, bud⟩ (psT td) → ScrV (W2.alloc (.cells #[.slice A n ca, .slice V a cv, .slice C b cc, .slice R c cr, .slice E m ce, .int .i64 bud] 27)) ⟨A, n, ca, V, a, cv, C, b, cc, R, c, cr, E, m, ce, bud⟩ (psT td)) := Lib.hid fun h => h.keep ((Below.refl _ W2).alloc (Nat.le_refl _) _)
      clear R2 F2 B2 K2
      have d0 : (W2.alloc (.cells #[.slice A n ca, .slice V a cv, .slice C b cc, .slice R c cr, .slice E m ce, .int .i64 bud] 27)).cell? ⟨w.heap.size, 0, none⟩ = some (.slice none 0 0) := R3.out.cell 0
      have y0 : (W2.alloc (.cells #[.slice A n ca, .slice V a cv, .slice C b cc, .slice R c cr, .slice E m ce, .int .i64 bud] 27)).frozen? ⟨w.heap.size, 0, none⟩ = false := R3.out.frozen 0
      have d1 : (W2.alloc (.cells #[.slice A n ca, .slice V a cv, .slice C b cc, .slice R c cr, .slice E m ce, .int .i64 bud] 27)).cell? ⟨w.heap.size, 1, none⟩ = some (.slice none 0 0) := R3.out.cell 1
      have y1 : (W2.alloc (.cells #[.slice A n ca, .slice V a cv, .slice C b cc, .slice R c cr, .slice E m ce, .int .i64 bud] 27)).frozen? ⟨w.heap.size, 1, none⟩ = false := R3.out.frozen 1
      have d2 : (W2.alloc (.cells #[.slice A n ca, .slice V a cv, .slice C b cc, .slice R c cr, .slice E m ce, .int .i64 bud] 27)).cell? ⟨w.heap.size, 2, none⟩ = some (.slice none 0 0) := R3.out.cell 2
      have y2 : (W2.alloc (.cells #[.slice A n ca, .slice V a cv, .slice C b cc, .slice R c cr, .slice E m ce, .int .i64 bud] 27)).frozen? ⟨w.heap.size, 2, none⟩ = false := R3.out.frozen 2
      have d3 : (W2.alloc (.cells #[.slice A n ca, .slice V a cv, .slice C b cc, .slice R c cr, .slice E m ce, .int .i64 bud] 27)).cell? ⟨w.heap.size, 3, none⟩ = some (.slice none 0 0) := R3.out.cell 3
      have y3 : (W2.alloc (.cells #[.slice A n ca, .slice V a cv, .slice C b cc, .slice R c cr, .slice E m ce, .int .i64 bud] 27)).frozen? ⟨w.heap.size, 3, none⟩ = false := R3.out.frozen 3
      have d4 : (W2.alloc (.cells #[.slice A n ca, .slice V a cv, .slice C b cc, .slice R c cr, .slice E m ce, .int .i64 bud] 27)).cell? ⟨w.heap.size, 4, none⟩ = some (.slice none 0 0) := R3.out.cell 4
      have y4 : (W2.alloc (.cells #[.slice A n ca, .slice V a cv, .slice C b cc, .slice R c cr, .slice E m ce, .int .i64 bud] 27)).frozen? ⟨w.heap.size, 4, none⟩ = false := R3.out.frozen 4
      have d5 : (W2.alloc (.cells #[.slice A n ca, .slice V a cv, .slice C b cc, .slice R c cr, .slice E m ce, .int .i64 bud] 27)).cell? ⟨w.heap.size, 5, none⟩ = some (.int .i64 0) := R3.out.cell 5
      have y5 : (W2.alloc (.cells #[.slice A n ca, .slice V a cv, .slice C b cc, .slice R c cr, .slice E m ce, .int .i64 bud] 27)).frozen? ⟨w.heap.size, 5, none⟩ = false := R3.out.frozen 5
      have f0 : (W2.alloc (.cells #[.slice A n ca, .slice V a cv, .slice C b cc, .slice R c cr, .slice E m ce, .int .i64 bud] 27)).cell? ⟨w.heap.size + 1, 0, none⟩ = some (.int .i64 0) := F3.out.cell 0
      have g0 : (W2.alloc (.cells #[.slice A n ca, .slice V a cv, .slice C b cc, .slice R c cr, .slice E m ce, .int .i64 bud] 27)).frozen? ⟨w.heap.size + 1, 0, none⟩ = false := F3.out.frozen 0
      have f1 : (W2.alloc (.cells #[.slice A n ca, .slice V a cv, .slice C b cc, .slice R c cr, .slice E m ce, .int .i64 bud] 27)).cell? ⟨w.heap.size + 1, 1, none⟩ = some (.int .i64 0) := F3.out.cell 1
      have g1 : (W2.alloc (.cells #[.slice A n ca, .slice V a cv, .slice C b cc, .slice R c cr, .slice E m ce, .int .i64 bud] 27)).frozen? ⟨w.heap.size + 1, 1, none⟩ = false := F3.out.frozen 1
      gi_wp2
      obtain ⟨W3, hW3⟩ : ∃ v, (W2.alloc (.cells #[.slice A n ca, .slice V a cv, .slice C b cc, .slice R c cr, .slice E m ce, .int .i64 bud] 27)) = v := ⟨_, rfl⟩
      rw [hW3] at R3 F3 B3 K3 S3 ⊢
      clear d0 d1 d2 d3 d4 d5 y0 y1 y2 y3 y4 y5 f0 f1 g0 g1 hW3
      have hz := zero_six R3.out B3.out (Nat.le_refl _) (.slice A n ca) (.slice V a cv) (.slice C b cc) (.slice R c cr) (.slice E m ce) (.int .i64 bud)
      have F6 := six_far F3.out (show w.heap.size + 1 ≠ w.heap.size by omega) (.slice A n ca) (.slice V a cv) (.slice C b cc) (.slice R c cr) (.slice E m ce) (.int .i64 bud)
      have KO := six_others w.heap.size W3 (.slice A n ca) (.slice V a cv) (.slice C b cc) (.slice R c cr) (.slice E m ce) (.int .i64 bud)
      have kk : Kp [w.heap.size, w.heap.size + 1] W3 ((((((((W3.setCell ⟨w.heap.size, 0, none⟩ (.slice A n ca)).setCell ⟨w.heap.size, 1, none⟩ (.slice V a cv)).setCell ⟨w.heap.size, 2, none⟩ (.slice C b cc)).setCell ⟨w.heap.size, 3, none⟩ (.slice R c cr)).setCell ⟨w.heap.size, 4, none⟩ (.slice E m ce)).setCell ⟨w.heap.size, 5, none⟩ (.int .i64 bud)).setCell ⟨w.heap.size + 1, 0, none⟩ (.int .i64 EV)).setCell ⟨w.heap.size + 1, 1, none⟩ (.int .i64 0)) :=
        ((((((((Kp.refl [w.heap.size, w.heap.size + 1] W3).setCell (p := ⟨w.heap.size, 0, none⟩) (.inl (by simp)) _).setCell (p := ⟨w.heap.size, 1, none⟩) (.inl (by simp)) _).setCell (p := ⟨w.heap.size, 2, none⟩) (.inl (by simp)) _).setCell (p := ⟨w.heap.size, 3, none⟩) (.inl (by simp)) _).setCell (p := ⟨w.heap.size, 4, none⟩) (.inl (by simp)) _).setCell (p := ⟨w.heap.size, 5, none⟩) (.inl (by simp)) _).setCell (p := ⟨w.heap.size + 1, 0, none⟩) (.inl (by simp)) _).setCell (p := ⟨w.heap.size + 1, 1, none⟩) (.inl (by simp)) _
      have hofs : ∀ x ∈ [w.heap.size, w.heap.size + 1], ∃ T cs, Blk W3 x T cs ∧ T ≠ 5 ∧ T ≠ 31 := fun x hx => by
        rcases List.mem_cons.1 hx with rfl | hx
        · exact ⟨_, _, R3.out, by decide, by decide⟩
        · simp only [List.mem_singleton] at hx; subst hx; exact ⟨_, _, F3.out, by decide, by decide⟩
      have SF : ScrV W3 ⟨A, n, ca, V, a, cv, C, b, cc, R, c, cr, E, m, ce, bud⟩ (psT td) → ScrV ((((((((W3.setCell ⟨w.heap.size, 0, none⟩ (.slice A n ca)).setCell ⟨w.heap.size, 1, none⟩ (.slice V a cv)).setCell ⟨w.heap.size, 2, none⟩ (.slice C b cc)).setCell ⟨w.heap.size, 3, none⟩ (.slice R c cr)).setCell ⟨w.heap.size, 4, none⟩ (.slice E m ce)).setCell ⟨w.heap.size, 5, none⟩ (.int .i64 bud)).setCell ⟨w.heap.size + 1, 0, none⟩ (.int .i64 EV)).setCell ⟨w.heap.size + 1, 1, none⟩ (.int .i64 0)) ⟨A, n, ca, V, a, cv, C, b, cc, R, c, cr, E, m, ce, bud⟩ (psT td) := fun h => h.kp kk hofs
      have FB : Blk ((((((((W3.setCell ⟨w.heap.size, 0, none⟩ (.slice A n ca)).setCell ⟨w.heap.size, 1, none⟩ (.slice V a cv)).setCell ⟨w.heap.size, 2, none⟩ (.slice C b cc)).setCell ⟨w.heap.size, 3, none⟩ (.slice R c cr)).setCell ⟨w.heap.size, 4, none⟩ (.slice E m ce)).setCell ⟨w.heap.size, 5, none⟩ (.int .i64 bud)).setCell ⟨w.heap.size + 1, 0, none⟩ (.int .i64 EV)).setCell ⟨w.heap.size + 1, 1, none⟩ (.int .i64 0)) (w.heap.size + 1) 34 #[.int .i64 EV, .int .i64 0] := (F6.set_ 0 _).set_ 1 _
      have RB : Blk ((((((((W3.setCell ⟨w.heap.size, 0, none⟩ (.slice A n ca)).setCell ⟨w.heap.size, 1, none⟩ (.slice V a cv)).setCell ⟨w.heap.size, 2, none⟩ (.slice C b cc)).setCell ⟨w.heap.size, 3, none⟩ (.slice R c cr)).setCell ⟨w.heap.size, 4, none⟩ (.slice E m ce)).setCell ⟨w.heap.size, 5, none⟩ (.int .i64 bud)).setCell ⟨w.heap.size + 1, 0, none⟩ (.int .i64 EV)).setCell ⟨w.heap.size + 1, 1, none⟩ (.int .i64 0)) w.heap.size 27 #[.slice A n ca, .slice V a cv, .slice C b cc, .slice R c cr, .slice E m ce, .int .i64 bud] := (hz.2.far (p := ⟨w.heap.size + 1, 0, none⟩) (by simp) _).far (p := ⟨w.heap.size + 1, 1, none⟩) (by simp) _
      have BB := below_set2 hz.1 (Nat.le_succ w.heap.size) (.int .i64 EV) (.int .i64 0)
      have KK := ((KO.trans (KeepsOthers.setCell _ ⟨w.heap.size + 1, 0, none⟩ (.int .i64 EV))).trans (KeepsOthers.setCell _ ⟨w.heap.size + 1, 1, none⟩ (.int .i64 0))).same D _ K3.out rfl
      clear hz F6 KO kk hofs
      obtain ⟨W8, hW8⟩ : ∃ v, ((((((((W3.setCell ⟨w.heap.size, 0, none⟩ (.slice A n ca)).setCell ⟨w.heap.size, 1, none⟩ (.slice V a cv)).setCell ⟨w.heap.size, 2, none⟩ (.slice C b cc)).setCell ⟨w.heap.size, 3, none⟩ (.slice R c cr)).setCell ⟨w.heap.size, 4, none⟩ (.slice E m ce)).setCell ⟨w.heap.size, 5, none⟩ (.int .i64 bud)).setCell ⟨w.heap.size + 1, 0, none⟩ (.int .i64 EV)).setCell ⟨w.heap.size + 1, 1, none⟩ (.int .i64 0)) = v := ⟨_, rfl⟩
      rw [hW8] at SF FB RB BB KK ⊢
      clear hW8
      refine ⟨by simp, .inl ⟨_, _, rfl, run_takeDeferred KK, ?_⟩⟩
      have hr' := scblk_own RB (grownBy_putObj' _ D (.deferred none)) (fun r e => by cases e; exact ⟨_, KK, rfl⟩)
      have hf' := scblk_own FB (grownBy_putObj' _ D (.deferred none)) (fun r e => by cases e; exact ⟨_, KK, rfl⟩)
      refine ⟨.tuple #[.agg #[.slice A n ca, .slice V a cv, .slice C b cc, .slice R c cr, .slice E m ce, .int .i64 bud], fltV (EV, 0)], results_cell2 (a := ⟨w.heap.size, 0, none⟩) (b := ⟨w.heap.size + 1, 0, none⟩) Tryd.results16 (by rfl) (hr'.run_load (P := Tryd.prog) Tryd.underlying27 rfl sizeS) (by rfl) (hf'.run_load (P := Tryd.prog) Tryd.underlying34 rfl sizeF), ?_⟩
      rw [HEQ2.out.1, HEQ2.out.2]
      refine ⟨BB.trans (belowK_b (w := w) (Nat.le_refl _) W8 D _ _ (by have := HS5.out; omega) KK rfl rfl), ?_⟩
      rcases HS.out with ⟨h1, h2⟩ | ⟨h1, h2, h3⟩
      · refine Or.inl ⟨h1, ?_⟩
        injection h2 with q1 q2 q3 q4 q5 q6 q7 q8 q9 q10 q11 q12 q13 q14 q15 q16
        subst q1 q2 q3 q4 q5 q6 q7 q8 q9 q10 q11 q12 q13 q14 q15 q16
        rfl
      · refine Or.inr ⟨h1, ⟨A, n, ca, V, a, cv, C, b, cc, R, c, cr, E, m, ce, bud⟩, rfl, ?_, h3⟩
        refine (SF (S3.out h2)).kp2 (L := [D]) (Kp.of_grown (grownBy_putObj' _ D (.deferred none)) (fun q hq => by simp at hq; simp [hq])) (fun x hx T cs hb => ?_)
        simp only [List.mem_singleton] at hx
        subst hx
        have h' : W8.heap[x]? = some (Obj.cells cs T (0, 0)) := hb
        rw [KK] at h'
        cases h'
    case stop =>
      rintro D c pre W1 hD hpre ⟨⟨rfl, E, hE, hf, hr, hfb⟩, hB⟩ hK
      gi_wp2
      refine ⟨by simp, .inl ⟨_, _, rfl, run_takeDeferred hK, ?_⟩⟩
      have hr' := scblk_own hr (grownBy_putObj' _ D (.deferred none)) (fun r e => by cases e; exact ⟨_, hK, rfl⟩)
      have hf' := scblk_own hfb (grownBy_putObj' _ D (.deferred none)) (fun r e => by cases e; exact ⟨_, hK, rfl⟩)
      have hEE : EE = E := by
        rw [← HEE.out]
        obtain ⟨q, hq⟩ := hpre
        unfold parseE
        rw [if_neg (by omega), ← hq, foldL_err t pre q td0 (by rw [hf]; exact hE), hf, if_pos hE]
      refine ⟨.tuple #[.agg sv0.cs, fltV E], results_cell2 (a := ⟨w.heap.size, 0, none⟩) (b := ⟨w.heap.size + 1, 0, none⟩) Tryd.results16 (by rfl) (hr'.run_load (P := Tryd.prog) Tryd.underlying27 rfl sizeS) (by rfl) (hf'.run_load (P := Tryd.prog) Tryd.underlying34 rfl sizeF), ?_⟩
      rw [hEE]
      exact ⟨hB.trans (belowK_b (w := w) (Nat.le_refl _) W1 D _ _ (by have := HS5.out; omega) hK rfl rfl), Or.inl ⟨hE, rfl⟩⟩
end Go.Proofs.YtnhnphifhkkboaaDoor
