/-
  Texts of these proofs, one behind the other: Rb14, Rh7, Rb15.
-/
import Derived.Test.YtleofglnlfpoeaaGreatKBP41
import Derived.Test.YtleofglnlfpoeaaGreatKBP25
import Derived.Test.YtleofglnlfpoeaaGreatKBP21
import Derived.Test.YtleofglnlfpoeaaGreatKBP31
import Derived.RegionTactic
import Derived.BigRegion
import Derived.Test.YtleofglnlfpoeaaGreatKBP32
namespace Go.Proofs.YtleofglnlfpoeaaGreat
open Go.RowKit
set_option linter.unusedVariables false
set_option linter.unusedSimpArgs false
set_option maxRecDepth 100000
theorem clone_own {P : Program} {t e ty : TypeId} {z : Value} {m bytes : Nat} {w : World} {ad : Addr} {n c : Nat} {f : Nat → Nat → Value} (ht : P.underlying t = some (.slice e)) (hinfo : (P.info? e).map (fun i => (i.zero, i.size, i.bytes)) = some (some z, m, bytes)) (hz : z.cells.size = m) (hm : 0 < m)
    (h1 : ∀ i j, i < n → j < m → (f i j).oneCell' = true) (hb : n * bytes ≤ 140737488355328) (hn : n ≤ maxLen) (R : FRow w m (some ad) n f) :
    ∃ v w', (Builtin.append_ #[t, t] ty #[.slice (some ⟨w.heap.size, 0, none⟩) 0 0, .slice (some ad) n c]).run P (w.alloc (.cells #[] e)) = .ok v w' ∧
      w'.ownsRow w.heap.size e m v n (cellsOf_ m f n) ∧ Below w.heap.size w w' := by
  obtain ⟨i, hi, hzz⟩ := Option.map_eq_some_iff.1 hinfo
  simp only [Prod.mk.injEq] at hzz
  obtain ⟨hz', hs, hby⟩ := hzz
  have hB0 : Below w.heap.size w (w.alloc (.cells #[] e)) := (Below.refl _ _).alloc (Nat.le_refl _) _
  have R0 := R.keep hB0
  have hown0 : (w.alloc (.cells #[] e)).ownsRow w.heap.size e m (.slice (some ⟨w.heap.size, 0, none⟩) 0 0) 0 [] :=
    ⟨by simp, Or.inr ⟨w.heap.size, 0, #[], rfl, Nat.le_refl _, heap_alloc_new w _, Nat.le_refl _, by unfold maxLen; omega, by simp, by simp⟩⟩
  obtain ⟨v', w', q1, q2, q3, _, _⟩ := run_append_own_at (P := P) (w.alloc (.cells #[] e)) w.heap.size t ty e i z m bytes ht hi hz' hs hby hz hm _ 0 [] hown0 ad n c (cellsOf_ m f n) (cellsOf_len m f n)
    (fun q u hu => by
      have hq : q < n * m := by have := (List.getElem?_eq_some_iff.1 hu).1; rwa [cellsOf_len] at this
      rw [cellsOf_at m f n q hq] at hu
      injection hu with hu
      subst hu
      have hin : q / m < n := by rw [Nat.div_lt_iff_lt_mul hm]; exact hq
      obtain ⟨ae, ea, _, hc⟩ := R0 (q / m) hin
      injection ea with ea
      subst ea
      have := hc (q % m) (Nat.mod_lt _ hm)
      rwa [show q / m * m + q % m = q from Nat.div_add_mod' q m] at this)
    (cellsOf_one h1) (by omega) (by rw [Nat.zero_add]; exact hb) hB0.size
  rw [Nat.zero_add, List.nil_append] at q2
  exact ⟨v', w', q1, q2, hB0.grown q3 hB0.size (fun j e => by simp [Value.ownBlock] at e; omega)⟩
theorem own_base {w : World} {B B' e size n : Nat} {v : Value} {xs : List Value} (h : w.ownsRow B e size v n xs) (hB : B' ≤ B) : w.ownsRow B' e size v n xs := by
  obtain ⟨h1, h2⟩ := h
  refine ⟨h1, ?_⟩
  rcases h2 with h2 | ⟨g, cap, cur, rfl, hg, r⟩
  · exact .inl h2
  · exact .inr ⟨g, cap, cur, rfl, Nat.le_trans hB hg, r⟩
theorem aclone_own {w : World} {A : Option Addr} {n c : Nat} {f : Nat → Nat → Value} (hA : A = none → n = 0 ∧ c = 0) (R : FRow w 5 A n f) (h1 : ∀ i j, i < n → j < 5 → (f i j).oneCell' = true) (hn : n ≤ 1000000) :
    Calls Tryz.prog 61 #[.slice A n c] w fun e w' => ∃ v, e = .returned v ∧ w'.ownsRow w.heap.size 62 5 v n (cellsOf_ 5 f n) ∧ Below w.heap.size w w' := by
  cases A with
  | none =>
    obtain ⟨rfl, rfl⟩ := hA rfl
    have hnil := fun W => Lib.run_eql_slice_nil (P := Tryz.prog) W 50 62 none 0 0 0 0 Tryz.underlying50
    clear R hA h1
    go_enter Tryz.func61, Tryz.ntmps61
    go_wp2
    go_ret
    exact ⟨_, rfl, World.ownsRow_nil _ _ _ _, Below.refl _ _⟩
  | some ad =>
    have hnil := fun W => Lib.run_eql_slice_nil (P := Tryz.prog) W 50 62 (some ad) n c 0 0 Tryz.underlying50
    obtain ⟨v, w', hrun, h3, h6⟩ := clone_own (P := Tryz.prog) (ty := 50) (c := c) Tryz.underlying50 acc_info rfl (by omega) h1 (by omega) (by unfold maxLen; omega) R
    have H3 := Lib.hid h3
    clear h3 R hA
    go_enter Tryz.func61, Tryz.ntmps61
    go_wp2_with (at_builtin; refine wpList_append_run rfl (.tmp 5) (.tmp 6) 50 rfl rfl rfl hrun ?_)
    go_ret
    exact ⟨v, rfl, H3.out, h6⟩
section
variable {w : World} {g : Nat} {d : Hd} {P : Bp} {s : Bs}
def TrcO (l : List Acc) (w : World) (e : Ending) (w' : World) : Prop := ∃ v, e = .returned v ∧ w'.ownsRow w.heap.size 62 5 v l.length (accL l) ∧ Below w.heap.size w w'
theorem btrace_own (h : BU w g d P s) (hn : s.tl.length ≤ 1000000) : Calls Tryz.prog 16 #[.pointer (some ⟨g, 0, none⟩)] w (TrcO s.tl w) := by
  have c10 := h.cells.2.2.2.2.2
  have ho := h.tr
  rw [accL_cells] at ho
  obtain ⟨A, cap, hv, h1, h2, h3, h4, h5⟩ := own_frow (by omega) ho
  rw [hv] at c10
  have CL := Lib.hid (aclone_own (c := cap) h5 h3 (fun i j _ hj => accF_one _ i j hj) hn)
  clear h ho hv h1 h2 h3 h4 h5
  obtain ⟨n, hnn⟩ : ∃ n, s.tl.length = n := ⟨_, rfl⟩
  have HN := Lib.hid hnn
  rw [hnn] at c10 CL
  clear hnn
  go_enter Tryz.func16, Tryz.ntmps16
  go_wp2_with fail
  refine CL.out.mono ?_
  rintro e w1 ⟨v, rfl, p1, p2⟩
  have R : Hid (TrcO s.tl w (.returned v) w1) := Lib.hid (by unfold TrcO; rw [accL_cells, HN.out]; exact ⟨v, rfl, p1, p2⟩)
  clear p1 p2
  go_wp2_with fail
  go_ret
  exact R.out
def BCloneR (g : Nat) (d : Hd) (P : Bp) (s : Bs) (w : World) (e : Ending) (w' : World) : Prop :=
  ∃ g2 P2, e = .returned (.pointer (some ⟨g2, 0, none⟩)) ∧ BU w' g2 d P2 s ∧ BU w' g d P s ∧ Kp (bL g P) w w' ∧ ∀ y ∈ bL g2 P2, w.heap.size ≤ y
set_option maxHeartbeats 16000000 in
theorem bclone_any (h : BU w g d P s) (hd : d.np ≤ 140737488355328 ∧ d.nv ≤ 140737488355328 ∧ d.nc ≤ 140737488355328) (hn : s.tl.length ≤ 1000000) :
    Calls Tryz.prog 12 #[.pointer (some ⟨g, 0, none⟩)] w (BCloneR g d P s w) := by
  have hload := h.blk
  unfold buC buK buR at hload
  obtain ⟨c5, c6, c7, c8, c9, c10⟩ := h.cells
  obtain ⟨rA, rc, hrv, _⟩ := h.rom
  have ho := h.tr
  rw [accL_cells] at ho
  obtain ⟨tA, tc, htv, _⟩ := own_frow (by omega) ho
  simp only [hrv, htv] at hload
  have HRV := Lib.hid hrv
  have HTV := Lib.hid htv
  clear ho hrv htv c5 c8 c9 c10
  have hlt := h.lt
  have H := Lib.hid h
  have HD := Lib.hid hd
  have HN := Lib.hid hn
  clear h hd hn
  have hnb := Blk.new w 126 #[.int .i64 s.now, .int .i64 s.cyc, .bool s.fast, .bool s.asked, .bool s.next, .slice rA s.rn rc, .pointer (some ⟨P.m, 0, none⟩), .pointer (some ⟨P.p, 0, none⟩), .int .i64 s.left, .bool s.over, .slice tA s.tl.length tc]
  have H1 := Lib.hid (H.out.kp0 ((Kp.refl [] w).alloc (.cells #[.int .i64 s.now, .int .i64 s.cyc, .bool s.fast, .bool s.asked, .bool s.next, .slice rA s.rn rc, .pointer (some ⟨P.m, 0, none⟩), .pointer (some ⟨P.p, 0, none⟩), .int .i64 s.left, .bool s.over, .slice tA s.tl.length tc] 126)))
  have K1 := Lib.hid ((Kp.refl (bL g P) w).alloc (.cells #[.int .i64 s.now, .int .i64 s.cyc, .bool s.fast, .bool s.asked, .bool s.next, .slice rA s.rn rc, .pointer (some ⟨P.m, 0, none⟩), .pointer (some ⟨P.p, 0, none⟩), .int .i64 s.left, .bool s.over, .slice tA s.tl.length tc] 126))
  have N1 := Lib.hid hnb
  have hg2 : w.heap.size ∉ bL g P := fun hy => Nat.lt_irrefl _ (H.out.lt _ hy)
  clear hnb c6 c7
  have c6 := H1.out.cells.2.1
  go_enter Tryz.func12, Tryz.ntmps12
  go_wp2_with (refine wpList_load_row rfl 126 (.tmp 7) rfl g (by rfl) 126 _ (0, 0) _ hload Tryz.underlying126 rfl (by kernel_rfl) ?_)
  clear hload
  generalize World.alloc w _ = w1 at *
  obtain ⟨g2, hgg⟩ : ∃ x, w.heap.size = x := ⟨_, rfl⟩
  rw [hgg] at N1 hg2 ⊢
  have GG := Lib.hid hgg
  clear hgg
  have hl1 : g2 < w1.heap.size := N1.out.lt
  refine (rclone_any H1.out.ram).mono ?_
  rintro e w2 ⟨m2, mb2, rfl, x1, x2, x3, _, bb⟩
  have H2 := Lib.hid (H1.out.keep bb)
  have K2 := Lib.hid (K1.out.trans (Kp.of_below (L := bL g P) bb) (fun z hz => .inl hz))
  have N2 := Lib.hid (N1.out.below bb hl1)
  have X1 : Hid (g2 < m2 ∧ (∀ b, mb2 = some b → g2 < b)) := Lib.hid ⟨by omega, fun b e => by have := x2 b e; omega⟩
  have R2 := Lib.hid x3
  have LM : Hid (w1.heap.size ≤ m2 ∧ ∀ b, mb2 = some b → w1.heap.size ≤ b) := Lib.hid ⟨x1, x2⟩
  have hl2 : w1.heap.size ≤ w2.heap.size := bb.size
  clear H1 K1 N1 x1 x2 x3 bb c6
  have d6 : w2.cell? ⟨g2, 6, none⟩ = some (.pointer (some ⟨P.m, 0, none⟩)) := N2.out.cell 6
  have e6 : w2.frozen? ⟨g2, 6, none⟩ = false := N2.out.frozen 6
  have k3 : Kp [g2] w2 (w2.setCell ⟨g2, 6, none⟩ (.pointer (some ⟨m2, 0, none⟩))) := (Kp.refl _ _).setCell (p := ⟨g2, 6, none⟩) (.inl (List.mem_singleton.2 rfl)) _
  have hnb2 : ∀ y ∈ [g2], NB w2 y := fun y hy => by rw [List.mem_singleton.1 hy]; exact NB.of N2.out (by decide) (by decide)
  have hoff : ∀ y ∈ bL g P, y ∉ [g2] := fun y hy hy2 => hg2 (by rw [← List.mem_singleton.1 hy2]; exact hy)
  have H3 := Lib.hid (H2.out.kp k3 hnb2 hoff)
  have K3 : Hid (Kp (bL g P) w _) := Lib.hid (K2.out.trans k3 (fun z hz => .inr (by rw [List.mem_singleton.1 hz, GG.out]; exact Nat.le_refl _)))
  have N3 := Lib.hid (N2.out.set_ 6 (.pointer (some ⟨m2, 0, none⟩)))
  have R3 := Lib.hid (R2.out.kp k3 (fun hy => by have := X1.out.1; have := List.mem_singleton.1 hy; omega) (fun b e hy => by have := X1.out.2 b e; have := List.mem_singleton.1 hy; omega))
  simp only [List.setIfInBounds_toArray, List.set_cons_zero, List.set_cons_succ] at N3
  clear H2 K2 N2 R2 k3 hnb2
  have c7 := H3.out.cells.2.2.1
  go_wp2_with fail
  clear d6 e6
  have hsz3 : (w2.setCell ⟨g2, 6, none⟩ (.pointer (some ⟨m2, 0, none⟩))).heap.size = w2.heap.size := by simp
  generalize World.setCell w2 _ _ = w3 at *
  refine (hclone_page H3.out.pg HD.out).mono ?_
  rintro e w4 ⟨p2, b2, rfl, x1, x2, x3, kk⟩
  have kk2 : Kp [P.p, P.b.v, P.b.c, P.b.p] w3 w4 := kk.mono (fun z hz => List.mem_cons_of_mem _ hz)
  have hin : ∀ z ∈ [P.p, P.b.v, P.b.c, P.b.p], z ∈ bL g P := fun z hz => mem_bL.2 (by
    simp only [List.mem_cons, List.not_mem_nil, or_false] at hz
    rcases hz with h | h | h | h <;> simp [h])
  have H4 := Lib.hid (H3.out.page kk2 x3)
  have K4 := Lib.hid (K3.out.trans (kk2.mono hin) (fun z hz => .inl hz))
  have N4 := Lib.hid (N3.out.kp kk2 (fun hy => hg2 (hin _ hy)))
  have hbl : ∀ z ∈ bL g P, z < g2 := fun z hz => by have := hlt z hz; rw [GG.out] at this; exact this
  have R4 := Lib.hid (R3.out.kp kk2 (fun hy => by have := hbl _ (hin _ hy); have := X1.out.1; omega) (fun b e hy => by have := hbl _ (hin _ hy); have := X1.out.2 b e; omega))
  have P4 := Lib.hid x2
  have X4 : Hid (g2 < p2 ∧ g2 < b2.v ∧ g2 < b2.c ∧ g2 < b2.p) := Lib.hid ⟨by omega, by omega, by omega, by omega⟩
  have X5 : Hid (w.heap.size ≤ p2 ∧ w.heap.size ≤ b2.v ∧ w.heap.size ≤ b2.c ∧ w.heap.size ≤ b2.p) := Lib.hid (by rw [GG.out]; exact ⟨by omega, by omega, by omega, by omega⟩)
  clear H3 K3 N3 R3 kk kk2 x1 x2 x3 c7 hsz3
  have d7 : w4.cell? ⟨g2, 7, none⟩ = some (.pointer (some ⟨P.p, 0, none⟩)) := N4.out.cell 7
  have e7 : w4.frozen? ⟨g2, 7, none⟩ = false := N4.out.frozen 7
  have k5 : Kp [g2] w4 (w4.setCell ⟨g2, 7, none⟩ (.pointer (some ⟨p2, 0, none⟩))) := (Kp.refl _ _).setCell (p := ⟨g2, 7, none⟩) (.inl (List.mem_singleton.2 rfl)) _
  have hnb4 : ∀ y ∈ [g2], NB w4 y := fun y hy => by rw [List.mem_singleton.1 hy]; exact NB.of N4.out (by decide) (by decide)
  have H5 := Lib.hid (H4.out.kp k5 hnb4 hoff)
  have K5 : Hid (Kp (bL g P) w _) := Lib.hid (K4.out.trans k5 (fun z hz => .inr (by rw [List.mem_singleton.1 hz, GG.out]; exact Nat.le_refl _)))
  have N5 := Lib.hid (N4.out.set_ 7 (.pointer (some ⟨p2, 0, none⟩)))
  have R5 := Lib.hid (R4.out.kp k5 (fun hy => by have := X1.out.1; have := List.mem_singleton.1 hy; omega) (fun b e hy => by have := X1.out.2 b e; have := List.mem_singleton.1 hy; omega))
  have P5 := Lib.hid (P4.out.kpN k5 hnb4 ⟨fun hy => by have := X4.out.1; have := List.mem_singleton.1 hy; omega, fun hy => by have := X4.out.2.1; have := List.mem_singleton.1 hy; omega, fun hy => by have := X4.out.2.2.1; have := List.mem_singleton.1 hy; omega, fun hy => by have := X4.out.2.2.2; have := List.mem_singleton.1 hy; omega⟩)
  simp only [List.setIfInBounds_toArray, List.set_cons_zero, List.set_cons_succ] at N5
  clear H4 K4 N4 R4 P4 k5 hnb4
  go_wp2_with fail
  clear d7 e7
  generalize World.setCell w4 _ _ = w5 at *
  refine (btrace_own H5.out HN.out).mono ?_
  rintro e w6 ⟨v, rfl, ov, bb⟩
  rw [accL_cells] at ov
  obtain ⟨vA, vc, rfl, _⟩ := own_frow (by omega) ov
  rw [← accL_cells] at ov
  obtain ⟨v, hv⟩ : ∃ v, Value.slice vA s.tl.length vc = v := ⟨_, rfl⟩
  have HV := Lib.hid hv
  rw [hv] at ov
  clear hv
  have H6 := Lib.hid (H5.out.keep bb)
  have K6 := Lib.hid (K5.out.trans (Kp.of_below (L := bL g P) bb) (fun z hz => .inl hz))
  have hl5 : g2 < w5.heap.size := N5.out.lt
  have N6 := Lib.hid (N5.out.below bb hl5)
  have R6 := Lib.hid (R5.out.keep bb)
  have P6 := Lib.hid (P5.out.keep bb)
  have O6 := Lib.hid ov
  have OV : Hid (∀ b, v.ownBlock = some b → w5.heap.size ≤ b) := Lib.hid (fun b e => (ov.lt b e).1)
  have W5 : Hid (w.heap.size ≤ w5.heap.size) := Lib.hid K5.out.size
  clear H5 K5 N5 R5 P5 ov bb
  rw [← HV.out] at O6 OV
  have d10 : w6.cell? ⟨g2, 10, none⟩ = some (.slice tA s.tl.length tc) := N6.out.cell 10
  have e10 : w6.frozen? ⟨g2, 10, none⟩ = false := N6.out.frozen 10
  have k7 : Kp [g2] w6 (w6.setCell ⟨g2, 10, none⟩ (.slice vA s.tl.length vc)) := (Kp.refl _ _).setCell (p := ⟨g2, 10, none⟩) (.inl (List.mem_singleton.2 rfl)) _
  have hnb6 : ∀ y ∈ [g2], NB w6 y := fun y hy => by rw [List.mem_singleton.1 hy]; exact NB.of N6.out (by decide) (by decide)
  have H7 := Lib.hid (H6.out.kp k7 hnb6 hoff)
  have K7 : Hid (Kp (bL g P) w _) := Lib.hid (K6.out.trans k7 (fun z hz => .inr (by rw [List.mem_singleton.1 hz, GG.out]; exact Nat.le_refl _)))
  have N7 := Lib.hid (N6.out.set_ 10 (.slice vA s.tl.length vc))
  have R7 := Lib.hid (R6.out.kp k7 (fun hy => by have := X1.out.1; have := List.mem_singleton.1 hy; omega) (fun b e hy => by have := X1.out.2 b e; have := List.mem_singleton.1 hy; omega))
  have P7 := Lib.hid (P6.out.kpN k7 hnb6 ⟨fun hy => by have := X4.out.1; have := List.mem_singleton.1 hy; omega, fun hy => by have := X4.out.2.1; have := List.mem_singleton.1 hy; omega, fun hy => by have := X4.out.2.2.1; have := List.mem_singleton.1 hy; omega, fun hy => by have := X4.out.2.2.2; have := List.mem_singleton.1 hy; omega⟩)
  have O7 := Lib.hid (own_kpL O6.out k7 (fun b e hy => by have := OV.out b e; have := List.mem_singleton.1 hy; omega))
  simp only [List.setIfInBounds_toArray, List.set_cons_zero, List.set_cons_succ] at N7
  clear H6 K6 N6 R6 P6 O6 k7 hnb6
  have NEW : Hid (∀ y ∈ bL g2 ⟨m2, mb2, p2, b2, .slice vA s.tl.length vc⟩, w.heap.size ≤ y) := Lib.hid (fun y hy => by
    have hm := LM.out
    have hx := X5.out
    have hov := OV.out
    have hw5 := W5.out
    have hgg := GG.out
    rcases mem_bL.1 hy with e | e | e | e | e | e | e | e
    · omega
    · have e : y = m2 := e
      omega
    · have e : mb2 = some y := e
      have := hm.2 y e
      omega
    · have e : y = p2 := e
      omega
    · have e : y = b2.v := e
      omega
    · have e : y = b2.c := e
      omega
    · have e : y = b2.p := e
      omega
    · have e : (Value.slice vA s.tl.length vc).ownBlock = some y := e
      have := hov y e
      omega)
  go_wp2_with fail
  go_ret
  refine ⟨g2, ⟨m2, mb2, p2, b2, .slice vA s.tl.length vc⟩, rfl, ⟨?_, R7.out, P7.out, ?_, own_base O7.out (Nat.zero_le _), H7.out.ok⟩, H7.out, K7.out, NEW.out⟩
  · have := N7.out
    rw [← HRV.out] at this
    exact this
  · exact H7.out.rom.mono (Nat.le_of_lt (hbl g (mem_bL.2 (.inl rfl))))
end
end Go.Proofs.YtleofglnlfpoeaaGreat
namespace Go.Proofs.YtleofglnlfpoeaaGreat
open Go.RowKit
set_option linter.unusedVariables false
set_option linter.unusedSimpArgs false
set_option maxRecDepth 100000
theorem rfcopy_any {w : World} {g n c t : Nat} {A : Option Addr} (h : Blk w g 113 (rfC A n c t)) :
    Calls Tryz.prog 104 #[.pointer (some ⟨g, 0, none⟩)] w fun e w' => e = .returned (.pointer (some ⟨w.heap.size, 0, none⟩)) ∧ Blk w' w.heap.size 113 (rfC A n c t) ∧ Below w.heap.size w w' := by
  have c0 : w.cell? ⟨g, 0, none⟩ = some (.slice A n c) := h.cell 0
  have c1 : w.cell? ⟨g, 1, none⟩ = some (.int .i64 t) := h.cell 1
  clear h
  go_enter Tryz.func104, Tryz.ntmps104
  go_wp2_with fail
  go_region
  all_goals
    go_wp2_with fail
    go_ret
    exact ⟨rfl, Blk.new w.drew _ _, (Below.refl _ _).drew.alloc (Nat.le_refl _) _⟩
def RhCopyR (r : Nat) (d : Hd) (J : Rr) (Z : Rz) (x : Hp) (w : World) (e : Ending) (w' : World) : Prop :=
  ∃ r2 J2, e = .returned (.pointer (some ⟨r2, 0, none⟩)) ∧ (∀ y ∈ J2.all r2, w.heap.size ≤ y) ∧ RHp w' r2 d J2 Z x ∧ RHp w' r d J Z x ∧ Below w.heap.size w w'
section
variable {w : World} {r : Nat} {d : Hd} {J : Rr} {Z : Rz} {x : Hp}
set_option maxHeartbeats 16000000 in
theorem rhcopy_any (h : RHp w r d J Z x) :
    Calls Tryz.prog 57 #[.pointer (some ⟨r, 0, none⟩)] w (RhCopyR r d J Z x w) := by
  obtain ⟨B, hB⟩ : ∃ B, w.heap.size = B := ⟨_, rfl⟩
  have HBB := Lib.hid hB
  have H := Lib.hid (h.kp0 (Kp.refl _ _).drew)
  have BW : Hid (Below B w w.drew) := Lib.hid (hB ▸ (Below.refl _ w).drew)
  have hz : B ≤ w.drew.heap.size := by rw [← hB]; exact Nat.le_refl _
  obtain ⟨e0, e1, e2, e3, e4, e5, e6, e7⟩ := h.cells
  have eq0 : w.cell? ⟨J.q, 0, none⟩ = some (.int .u8 x.q.d) := h.q.1.cell 0
  have eq1 : w.cell? ⟨J.q, 1, none⟩ = some (.bool x.q.due) := h.q.1.cell 1
  clear h hB
  go_enter Tryz.func57, Tryz.ntmps57
  go_wp2_with fail
  refine rg_begin (S := fun w' => w'.cell? ⟨r, 0, none⟩ = some (.int .u8 x.buf) ∧ w'.cell? ⟨r, 1, none⟩ = some (.pointer (some ⟨J.t, 0, none⟩)) ∧ w'.cell? ⟨r, 2, none⟩ = some (.pointer (some ⟨J.q, 0, none⟩)) ∧ w'.cell? ⟨r, 3, none⟩ = some (.pointer (some ⟨J.p, 0, none⟩)) ∧ w'.cell? ⟨r, 4, none⟩ = some (.pointer (some ⟨J.v, 0, none⟩)) ∧ w'.cell? ⟨r, 5, none⟩ = some (.pointer (some ⟨J.c, 0, none⟩)) ∧ w'.cell? ⟨r, 6, none⟩ = some (.pointer (some ⟨J.l, 0, none⟩)) ∧ w'.cell? ⟨r, 7, none⟩ = some (.int .i64 x.now) ∧ w'.cell? ⟨J.q, 0, none⟩ = some (.int .u8 x.q.d) ∧ w'.cell? ⟨J.q, 1, none⟩ = some (.bool x.q.due)) 52 #[false, false, false, false, false, false, false, false, false, false, false, false, false, false, false, false, false, false, false, false, false, false, false, false, false, false, false, false, false, false, false, false, false, false, false, false, false, false, false, false, false, false, false, false, false, false, false, false, false, false, false, false] (by kernel_rfl) (by kernel_rfl) (by kernel_rfl) ?_ (fun hHeld => ?_)
  · exact ⟨e0, e1, e2, e3, e4, e5, e6, e7, eq0, eq1⟩
  generalize w.drew = w0 at *
  clear e0 e1 e2 e3 e4 e5 e6 e7 eq0 eq1
  refine rgt 0 (some 3) (v := ?_) rfl ?_ ?_
  rotate_left 1
  · (intro wS hSw; (try dsimp only at hSw); go_simp; try with_reducible rfl)
  refine rgt 1 (some 4) (v := ?_) rfl ?_ ?_
  rotate_left 1
  · (intro wS hSw; (try dsimp only at hSw); go_simp; try with_reducible rfl)
  refine rgt 2 (some 5) (v := ?_) rfl ?_ ?_
  rotate_left 1
  · (intro wS hSw; (try dsimp only at hSw); go_simp; try with_reducible rfl)
  refine rgt 3 (some 6) (v := ?_) rfl ?_ ?_
  rotate_left 1
  · (intro wS hSw; (try dsimp only at hSw); go_simp; try with_reducible rfl)
  refine rgt 4 (some 7) (v := ?_) rfl ?_ ?_
  rotate_left 1
  · (intro wS hSw; (try dsimp only at hSw); go_simp; try with_reducible rfl)
  refine rgt 5 (some 8) (v := ?_) rfl ?_ ?_
  rotate_left 1
  · (intro wS hSw; (try dsimp only at hSw); go_simp; try with_reducible rfl)
  refine rgt 6 (some 9) (v := ?_) rfl ?_ ?_
  rotate_left 1
  · (intro wS hSw; (try dsimp only at hSw); go_simp; try with_reducible rfl)
  refine rgt 7 (some 10) (v := ?_) rfl ?_ ?_
  rotate_left 1
  · (intro wS hSw; (try dsimp only at hSw); go_simp; try with_reducible rfl)
  refine rgt 9 (some 12) (v := ?_) rfl ?_ ?_
  rotate_left 1
  · (intro wS hSw; (try dsimp only at hSw); go_simp; try with_reducible rfl)
  refine rgt 10 (some 13) (v := ?_) rfl ?_ ?_
  rotate_left 1
  · (intro wS hSw; (try dsimp only at hSw); go_simp; try with_reducible rfl)
  refine rgt 11 (some 14) (v := ?_) rfl ?_ ?_
  rotate_left 1
  · (intro wS hSw; (try dsimp only at hSw); go_simp; try with_reducible rfl)
  refine rgt 12 (some 15) (v := ?_) rfl ?_ ?_
  rotate_left 1
  · (intro wS hSw; (try dsimp only at hSw); go_simp; try with_reducible rfl)
  refine rgt 13 (some 16) (v := ?_) rfl ?_ ?_
  rotate_left 1
  · (intro wS hSw; (try dsimp only at hSw); go_simp; try with_reducible rfl)
  refine rgt 14 (some 17) (v := ?_) rfl ?_ ?_
  rotate_left 1
  · (intro wS hSw; (try dsimp only at hSw); go_simp; try with_reducible rfl)
  refine rgt 15 (some 18) (v := ?_) rfl ?_ ?_
  rotate_left 1
  · (intro wS hSw; (try dsimp only at hSw); go_simp; try with_reducible rfl)
  refine rgt 16 (some 19) (v := ?_) rfl ?_ ?_
  rotate_left 1
  · (intro wS hSw; (try dsimp only at hSw); go_simp; try with_reducible rfl)
  refine rgt 17 (some 20) (v := ?_) rfl ?_ ?_
  rotate_left 1
  · (intro wS hSw; (try dsimp only at hSw); go_simp; try with_reducible rfl)
  refine rgt 18 (some 21) (v := ?_) rfl ?_ ?_
  rotate_left 1
  · (intro wS hSw; (try dsimp only at hSw); go_simp; try with_reducible rfl)
  refine rgt 19 (some 22) (v := ?_) rfl ?_ ?_
  rotate_left 1
  · (intro wS hSw; (try dsimp only at hSw); go_simp; try with_reducible rfl)
  refine rgt 20 (some 23) (v := ?_) rfl ?_ ?_
  rotate_left 1
  · (intro wS hSw; (try dsimp only at hSw); go_simp; try with_reducible rfl)
  refine rgt 21 (some 24) (v := ?_) rfl ?_ ?_
  rotate_left 1
  · (intro wS hSw; (try dsimp only at hSw); go_simp; try with_reducible rfl)
  refine rgt 22 (some 25) (v := ?_) rfl ?_ ?_
  rotate_left 1
  · (intro wS hSw; (try dsimp only at hSw); go_simp; try with_reducible rfl)
  refine rgt 23 (some 26) (v := ?_) rfl ?_ ?_
  rotate_left 1
  · (intro wS hSw; (try dsimp only at hSw); go_simp; try with_reducible rfl)
  refine rgt 25 (some 28) (v := ?_) rfl ?_ ?_
  rotate_left 1
  · (intro wS hSw; (try dsimp only at hSw); go_simp; try with_reducible rfl)
  refine rgt 26 (some 29) (v := ?_) rfl ?_ ?_
  rotate_left 1
  · (intro wS hSw; (try dsimp only at hSw); go_simp; try with_reducible rfl)
  refine rgt 27 (some 30) (v := ?_) rfl ?_ ?_
  rotate_left 1
  · (intro wS hSw; (try dsimp only at hSw); go_simp; try with_reducible rfl)
  refine rgt 28 (some 31) (v := ?_) rfl ?_ ?_
  rotate_left 1
  · (intro wS hSw; (try dsimp only at hSw); go_simp; try with_reducible rfl)
  refine rgt 30 (some 33) (v := ?_) rfl ?_ ?_
  rotate_left 1
  · (intro wS hSw; (try dsimp only at hSw); go_simp; try with_reducible rfl)
  refine rgt 31 (some 34) (v := ?_) rfl ?_ ?_
  rotate_left 1
  · (intro wS hSw; (try dsimp only at hSw); go_simp; try with_reducible rfl)
  refine rgt 32 (some 35) (v := ?_) rfl ?_ ?_
  rotate_left 1
  · (intro wS hSw; (try dsimp only at hSw); go_simp; try with_reducible rfl)
  refine rgt 33 (some 36) (v := ?_) rfl ?_ ?_
  rotate_left 1
  · (intro wS hSw; (try dsimp only at hSw); go_simp; try with_reducible rfl)
  refine rgt 35 (some 38) (v := ?_) rfl ?_ ?_
  rotate_left 1
  · (intro wS hSw; (try dsimp only at hSw); go_simp; try with_reducible rfl)
  refine rgt 36 (some 39) (v := ?_) rfl ?_ ?_
  rotate_left 1
  · (intro wS hSw; (try dsimp only at hSw); go_simp; try with_reducible rfl)
  refine rgt 37 (some 40) (v := ?_) rfl ?_ ?_
  rotate_left 1
  · (intro wS hSw; (try dsimp only at hSw); go_simp; try with_reducible rfl)
  refine rgt 38 (some 41) (v := ?_) rfl ?_ ?_
  rotate_left 1
  · (intro wS hSw; (try dsimp only at hSw); go_simp; try with_reducible rfl)
  refine rgt 40 (some 43) (v := ?_) rfl ?_ ?_
  rotate_left 1
  · (intro wS hSw; (try dsimp only at hSw); go_simp; try with_reducible rfl)
  refine rgt 41 (some 44) (v := ?_) rfl ?_ ?_
  rotate_left 1
  · (intro wS hSw; (try dsimp only at hSw); go_simp; try with_reducible rfl)
  refine rgt 42 (some 45) (v := ?_) rfl ?_ ?_
  rotate_left 1
  · (intro wS hSw; (try dsimp only at hSw); go_simp; try with_reducible rfl)
  refine rgt 43 (some 46) (v := ?_) rfl ?_ ?_
  rotate_left 1
  · (intro wS hSw; (try dsimp only at hSw); go_simp; try with_reducible rfl)
  refine rgt 45 (some 48) (v := ?_) rfl ?_ ?_
  rotate_left 1
  · (intro wS hSw; (try dsimp only at hSw); go_simp; try with_reducible rfl)
  refine rgt 46 (some 49) (v := ?_) rfl ?_ ?_
  rotate_left 1
  · (intro wS hSw; (try dsimp only at hSw); go_simp; try with_reducible rfl)
  refine rgt 47 (some 50) (v := ?_) rfl ?_ ?_
  rotate_left 1
  · (intro wS hSw; (try dsimp only at hSw); go_simp; try with_reducible rfl)
  refine rgt 48 (some 51) (v := ?_) rfl ?_ ?_
  rotate_left 1
  · (intro wS hSw; (try dsimp only at hSw); go_simp; try with_reducible rfl)
  try simp only [Act.put, List.setIfInBounds_toArray, List.set_cons_zero, List.set_cons_succ]
  refine rg_of (rs := [8, 24]) (fuel := 8) (by kernel_rfl) rfl ?_
  refine rg_step (i := 8) (l := #[true, true, true, true, true, true, true, true, true, true, true, true, true, true, true, true, true, true, true, true, true, true, true, true, false, true, true, true, true, false, true, true, true, true, false, true, true, true, true, false, true, true, true, true, false, true, true, true, true, false, false, false]) rfl (by kernel_rfl) (by kernel_rfl) ?_ ?_
  · intro K hK
    go_simp
    (go_at_call 102)
    refine (rtcopy_any H.out.tm).mono ?_
    rintro e w1 ⟨rfl, y1, b1⟩
    obtain ⟨gt, hg⟩ : ∃ g, w0.heap.size = g := ⟨_, rfl⟩
    have Nt : Hid (RTM w1 gt x.tm) := Lib.hid (hg ▸ y1)
    simp only [hg]
    have zt : B ≤ gt := by omega
    have BW' := Lib.hid (BW.out.trans (b1.mono hz))
    replace H := Lib.hid (H.out.keep b1)
    have hz' : B ≤ w1.heap.size := Nat.le_trans hz b1.size
    clear BW hz
    have BW := BW'
    have hz := hz'
    clear BW' hz' y1 b1 hg
    obtain ⟨e0, e1, e2, e3, e4, e5, e6, e7⟩ := H.out.cells
    have eq0 : _ = some (Value.int .u8 x.q.d) := H.out.q.1.cell 0
    have eq1 : _ = some (Value.bool x.q.due) := H.out.q.1.cell 1
    first | (refine hK.out _ _ ?_ (fun hHeld => ?_)) | (go_wp2_with fail; refine hK.out _ _ ?_ (fun hHeld => ?_))
    · (try dsimp only); exact ⟨e0, e1, e2, e3, e4, e5, e6, e7, eq0, eq1⟩
    clear hK K
    try simp only [Act.put, List.setIfInBounds_toArray, List.set_cons_zero, List.set_cons_succ]
    clear e0 e1 e2 e3 e4 e5 e6 e7 eq0 eq1
    refine rg_of (rs := [24, 29]) (fuel := 7) (by kernel_rfl) rfl ?_
    refine rg_step (i := 24) (l := #[true, true, true, true, true, true, true, true, true, true, true, true, true, true, true, true, true, true, true, true, true, true, true, true, true, true, true, true, true, false, true, true, true, true, false, true, true, true, true, false, true, true, true, true, false, true, true, true, true, false, false, false]) rfl (by kernel_rfl) (by kernel_rfl) ?_ ?_
    · intro K hK
      go_simp
      have b1 : Below w1.heap.size w1 (w1.alloc (.cells #[.int .u8 x.q.d, .bool x.q.due] 105)) := (Below.refl _ _).alloc (Nat.le_refl _) _
      have Nq : Hid (RQ (w1.alloc (.cells #[.int .u8 x.q.d, .bool x.q.due] 105)) w1.heap.size x.q) := Lib.hid ⟨Blk.new w1 _ _, H.out.q.2⟩
      replace Nt := Lib.hid (And.intro (Nt.out.1.below b1 Nt.out.1.lt) Nt.out.2)
      have BW' := Lib.hid (BW.out.trans (b1.mono hz))
      replace H := Lib.hid (H.out.keep b1)
      have hz' : B ≤ (w1.alloc (.cells #[.int .u8 x.q.d, .bool x.q.due] 105)).heap.size := Nat.le_trans hz b1.size
      have zq : B ≤ w1.heap.size := hz
      clear BW hz
      have BW := BW'
      have hz := hz'
      clear BW' hz' b1
      obtain ⟨e0, e1, e2, e3, e4, e5, e6, e7⟩ := H.out.cells
      have eq0 : _ = some (Value.int .u8 x.q.d) := H.out.q.1.cell 0
      have eq1 : _ = some (Value.bool x.q.due) := H.out.q.1.cell 1
      first | (refine hK.out _ _ ?_ (fun hHeld => ?_)) | (go_wp2_with fail; refine hK.out _ _ ?_ (fun hHeld => ?_))
      · (try dsimp only); exact ⟨e0, e1, e2, e3, e4, e5, e6, e7, eq0, eq1⟩
      clear hK K
      try simp only [Act.put, List.setIfInBounds_toArray, List.set_cons_zero, List.set_cons_succ]
      generalize hgq : w1.heap.size = gq at *
      generalize World.alloc w1 _ = w2 at *
      clear e0 e1 e2 e3 e4 e5 e6 e7 eq0 eq1
      refine rg_next (i := 29) (l := #[true, true, true, true, true, true, true, true, true, true, true, true, true, true, true, true, true, true, true, true, true, true, true, true, true, true, true, true, true, true, true, true, true, true, false, true, true, true, true, false, true, true, true, true, false, true, true, true, true, false, false, false]) (fuel := 6) (by kernel_rfl) rfl (by kernel_rfl) (by kernel_rfl) (fun K hK => ?_)
      go_simp
      (go_at_call 103)
      refine (rpcopy_any H.out.pt).mono ?_
      rintro e w3 ⟨rfl, y1, b1⟩
      obtain ⟨gp, hg⟩ : ∃ g, w2.heap.size = g := ⟨_, rfl⟩
      have Np : Hid (RP w3 gp Z.A3 d.np Z.c3 x.tp x.pt) := Lib.hid (hg ▸ y1)
      simp only [hg]
      have zp : B ≤ gp := by omega
      replace Nt := Lib.hid (And.intro (Nt.out.1.below b1 Nt.out.1.lt) Nt.out.2)
      replace Nq := Lib.hid (And.intro (Nq.out.1.below b1 Nq.out.1.lt) Nq.out.2)
      have BW' := Lib.hid (BW.out.trans (b1.mono hz))
      replace H := Lib.hid (H.out.keep b1)
      have hz' : B ≤ w3.heap.size := Nat.le_trans hz b1.size
      clear BW hz
      have BW := BW'
      have hz := hz'
      clear BW' hz' y1 b1 hg
      obtain ⟨e0, e1, e2, e3, e4, e5, e6, e7⟩ := H.out.cells
      have eq0 : _ = some (Value.int .u8 x.q.d) := H.out.q.1.cell 0
      have eq1 : _ = some (Value.bool x.q.due) := H.out.q.1.cell 1
      first | (refine hK.out _ _ ?_ (fun hHeld => ?_)) | (go_wp2_with fail; refine hK.out _ _ ?_ (fun hHeld => ?_))
      · (try dsimp only); exact ⟨e0, e1, e2, e3, e4, e5, e6, e7, eq0, eq1⟩
      clear hK K
      try simp only [Act.put, List.setIfInBounds_toArray, List.set_cons_zero, List.set_cons_succ]
      clear e0 e1 e2 e3 e4 e5 e6 e7 eq0 eq1
      refine rg_next (i := 34) (l := #[true, true, true, true, true, true, true, true, true, true, true, true, true, true, true, true, true, true, true, true, true, true, true, true, true, true, true, true, true, true, true, true, true, true, true, true, true, true, true, false, true, true, true, true, false, true, true, true, true, false, false, false]) (fuel := 5) (by kernel_rfl) rfl (by kernel_rfl) (by kernel_rfl) (fun K hK => ?_)
      go_simp
      (go_at_call 104)
      refine (rfcopy_any H.out.v).mono ?_
      rintro e w4 ⟨rfl, y1, b1⟩
      obtain ⟨gv, hg⟩ : ∃ g, w3.heap.size = g := ⟨_, rfl⟩
      have Nv : Hid (Blk w4 gv 113 (rfC Z.A1 d.nv Z.c1 x.tv)) := Lib.hid (hg ▸ y1)
      simp only [hg]
      have zv : B ≤ gv := by omega
      replace Nt := Lib.hid (And.intro (Nt.out.1.below b1 Nt.out.1.lt) Nt.out.2)
      replace Nq := Lib.hid (And.intro (Nq.out.1.below b1 Nq.out.1.lt) Nq.out.2)
      replace Np := Lib.hid (And.intro (Np.out.1.below b1 Np.out.1.lt) Np.out.2)
      have BW' := Lib.hid (BW.out.trans (b1.mono hz))
      replace H := Lib.hid (H.out.keep b1)
      have hz' : B ≤ w4.heap.size := Nat.le_trans hz b1.size
      clear BW hz
      have BW := BW'
      have hz := hz'
      clear BW' hz' y1 b1 hg
      obtain ⟨e0, e1, e2, e3, e4, e5, e6, e7⟩ := H.out.cells
      have eq0 : _ = some (Value.int .u8 x.q.d) := H.out.q.1.cell 0
      have eq1 : _ = some (Value.bool x.q.due) := H.out.q.1.cell 1
      first | (refine hK.out _ _ ?_ (fun hHeld => ?_)) | (go_wp2_with fail; refine hK.out _ _ ?_ (fun hHeld => ?_))
      · (try dsimp only); exact ⟨e0, e1, e2, e3, e4, e5, e6, e7, eq0, eq1⟩
      clear hK K
      try simp only [Act.put, List.setIfInBounds_toArray, List.set_cons_zero, List.set_cons_succ]
      clear e0 e1 e2 e3 e4 e5 e6 e7 eq0 eq1
      refine rg_next (i := 39) (l := #[true, true, true, true, true, true, true, true, true, true, true, true, true, true, true, true, true, true, true, true, true, true, true, true, true, true, true, true, true, true, true, true, true, true, true, true, true, true, true, true, true, true, true, true, false, true, true, true, true, false, false, false]) (fuel := 4) (by kernel_rfl) rfl (by kernel_rfl) (by kernel_rfl) (fun K hK => ?_)
      go_simp
      (go_at_call 104)
      refine (rfcopy_any H.out.c).mono ?_
      rintro e w5 ⟨rfl, y1, b1⟩
      obtain ⟨gc, hg⟩ : ∃ g, w4.heap.size = g := ⟨_, rfl⟩
      have Nc : Hid (Blk w5 gc 113 (rfC Z.A2 d.nc Z.c2 x.tc)) := Lib.hid (hg ▸ y1)
      simp only [hg]
      have zc : B ≤ gc := by omega
      have hvc : gv ≠ gc := (by have := Nv.out.lt; omega)
      replace Nt := Lib.hid (And.intro (Nt.out.1.below b1 Nt.out.1.lt) Nt.out.2)
      replace Nq := Lib.hid (And.intro (Nq.out.1.below b1 Nq.out.1.lt) Nq.out.2)
      replace Np := Lib.hid (And.intro (Np.out.1.below b1 Np.out.1.lt) Np.out.2)
      replace Nv := Lib.hid (Nv.out.below b1 Nv.out.lt)
      have BW' := Lib.hid (BW.out.trans (b1.mono hz))
      replace H := Lib.hid (H.out.keep b1)
      have hz' : B ≤ w5.heap.size := Nat.le_trans hz b1.size
      clear BW hz
      have BW := BW'
      have hz := hz'
      clear BW' hz' y1 b1 hg
      obtain ⟨e0, e1, e2, e3, e4, e5, e6, e7⟩ := H.out.cells
      have eq0 : _ = some (Value.int .u8 x.q.d) := H.out.q.1.cell 0
      have eq1 : _ = some (Value.bool x.q.due) := H.out.q.1.cell 1
      first | (refine hK.out _ _ ?_ (fun hHeld => ?_)) | (go_wp2_with fail; refine hK.out _ _ ?_ (fun hHeld => ?_))
      · (try dsimp only); exact ⟨e0, e1, e2, e3, e4, e5, e6, e7, eq0, eq1⟩
      clear hK K
      try simp only [Act.put, List.setIfInBounds_toArray, List.set_cons_zero, List.set_cons_succ]
      clear e0 e1 e2 e3 e4 e5 e6 e7 eq0 eq1
      refine rg_next (i := 44) (l := #[true, true, true, true, true, true, true, true, true, true, true, true, true, true, true, true, true, true, true, true, true, true, true, true, true, true, true, true, true, true, true, true, true, true, true, true, true, true, true, true, true, true, true, true, true, true, true, true, true, false, false, false]) (fuel := 3) (by kernel_rfl) rfl (by kernel_rfl) (by kernel_rfl) (fun K hK => ?_)
      go_simp
      (go_at_call 105)
      refine (rlcopy_any H.out.l).mono ?_
      rintro e w6 ⟨rfl, y1, b1⟩
      obtain ⟨gl, hg⟩ : ∃ g, w5.heap.size = g := ⟨_, rfl⟩
      have Nl : Hid (Blk w6 gl 115 (rlC Z.A d.n Z.c x.s x.ro)) := Lib.hid (hg ▸ y1)
      simp only [hg]
      have zl : B ≤ gl := by omega
      replace Nt := Lib.hid (And.intro (Nt.out.1.below b1 Nt.out.1.lt) Nt.out.2)
      replace Nq := Lib.hid (And.intro (Nq.out.1.below b1 Nq.out.1.lt) Nq.out.2)
      replace Np := Lib.hid (And.intro (Np.out.1.below b1 Np.out.1.lt) Np.out.2)
      replace Nv := Lib.hid (Nv.out.below b1 Nv.out.lt)
      replace Nc := Lib.hid (Nc.out.below b1 Nc.out.lt)
      have BW' := Lib.hid (BW.out.trans (b1.mono hz))
      replace H := Lib.hid (H.out.keep b1)
      have hz' : B ≤ w6.heap.size := Nat.le_trans hz b1.size
      clear BW hz
      have BW := BW'
      have hz := hz'
      clear BW' hz' y1 b1 hg
      obtain ⟨e0, e1, e2, e3, e4, e5, e6, e7⟩ := H.out.cells
      have eq0 : _ = some (Value.int .u8 x.q.d) := H.out.q.1.cell 0
      have eq1 : _ = some (Value.bool x.q.due) := H.out.q.1.cell 1
      first | (refine hK.out _ _ ?_ (fun hHeld => ?_)) | (go_wp2_with fail; refine hK.out _ _ ?_ (fun hHeld => ?_))
      · (try dsimp only); exact ⟨e0, e1, e2, e3, e4, e5, e6, e7, eq0, eq1⟩
      clear hK K
      refine rgt 49 (some 52) (v := ?_) rfl ?_ ?_
      rotate_left 1
      · (intro wS hSw; (try dsimp only at hSw); go_simp; try with_reducible rfl)
      try simp only [Act.put, List.setIfInBounds_toArray, List.set_cons_zero, List.set_cons_succ]
      refine rg_next (i := 50) (l := #[true, true, true, true, true, true, true, true, true, true, true, true, true, true, true, true, true, true, true, true, true, true, true, true, true, true, true, true, true, true, true, true, true, true, true, true, true, true, true, true, true, true, true, true, true, true, true, true, true, true, true, false]) (fuel := 1) (by kernel_rfl) rfl (by kernel_rfl) (by kernel_rfl) (fun K hK => ?_)
      go_simp
      have b1 : Below w6.heap.size w6 (w6.alloc (.cells #[.int .u8 x.buf, .pointer (some ⟨gt, 0, none⟩), .pointer (some ⟨gq, 0, none⟩), .pointer (some ⟨gp, 0, none⟩), .pointer (some ⟨gv, 0, none⟩), .pointer (some ⟨gc, 0, none⟩), .pointer (some ⟨gl, 0, none⟩), .int .i64 x.now] 111)) := (Below.refl _ _).alloc (Nat.le_refl _) _
      have NP : Hid (RHp (w6.alloc (.cells #[.int .u8 x.buf, .pointer (some ⟨gt, 0, none⟩), .pointer (some ⟨gq, 0, none⟩), .pointer (some ⟨gp, 0, none⟩), .pointer (some ⟨gv, 0, none⟩), .pointer (some ⟨gc, 0, none⟩), .pointer (some ⟨gl, 0, none⟩), .int .i64 x.now] 111)) w6.heap.size d ⟨gt, gq, gp, gv, gc, gl⟩ Z x) := Lib.hid ⟨Blk.new w6 _ _, And.intro (Nt.out.1.below b1 Nt.out.1.lt) Nt.out.2, And.intro (Nq.out.1.below b1 Nq.out.1.lt) Nq.out.2, And.intro (Np.out.1.below b1 Np.out.1.lt) Np.out.2, Nv.out.below b1 Nv.out.lt, Nc.out.below b1 Nc.out.lt, Nl.out.below b1 Nl.out.lt, hvc⟩
      have BX := Lib.hid (BW.out.trans (b1.mono hz))
      replace H := Lib.hid (H.out.keep b1)
      obtain ⟨e0, e1, e2, e3, e4, e5, e6, e7⟩ := H.out.cells
      have eq0 : _ = some (Value.int .u8 x.q.d) := H.out.q.1.cell 0
      have eq1 : _ = some (Value.bool x.q.due) := H.out.q.1.cell 1
      first | (refine hK.out _ _ ?_ (fun hHeld => ?_)) | (go_wp2_with fail; refine hK.out _ _ ?_ (fun hHeld => ?_))
      · (try dsimp only); exact ⟨e0, e1, e2, e3, e4, e5, e6, e7, eq0, eq1⟩
      clear hK K
      refine rgt 51 (some 2) (v := ?_) rfl ?_ ?_
      rotate_left 1
      · (intro wS hSw; (try dsimp only at hSw); go_simp; try with_reducible rfl)
      try simp only [Act.put, List.setIfInBounds_toArray, List.set_cons_zero, List.set_cons_succ]
      refine wpAnyH_done (by kernel_rfl) ?_ _
      clear hHeld
      go_wp2_with fail
      go_ret
      exact ⟨w6.heap.size, ⟨gt, gq, gp, gv, gc, gl⟩, rfl, (by rw [HBB.out]; simp [Rr.all]; omega), NP.out, H.out, by rw [HBB.out]; exact BX.out⟩
    refine rg_step (i := 29) (l := #[true, true, true, true, true, true, true, true, true, true, true, true, true, true, true, true, true, true, true, true, true, true, true, true, false, true, true, true, true, true, true, true, true, true, false, true, true, true, true, false, true, true, true, true, false, true, true, true, true, false, false, false]) rfl (by kernel_rfl) (by kernel_rfl) ?_ ?_
    · intro K hK
      go_simp
      (go_at_call 103)
      refine (rpcopy_any H.out.pt).mono ?_
      rintro e w2 ⟨rfl, y1, b1⟩
      obtain ⟨gp, hg⟩ : ∃ g, w1.heap.size = g := ⟨_, rfl⟩
      have Np : Hid (RP w2 gp Z.A3 d.np Z.c3 x.tp x.pt) := Lib.hid (hg ▸ y1)
      simp only [hg]
      have zp : B ≤ gp := by omega
      replace Nt := Lib.hid (And.intro (Nt.out.1.below b1 Nt.out.1.lt) Nt.out.2)
      have BW' := Lib.hid (BW.out.trans (b1.mono hz))
      replace H := Lib.hid (H.out.keep b1)
      have hz' : B ≤ w2.heap.size := Nat.le_trans hz b1.size
      clear BW hz
      have BW := BW'
      have hz := hz'
      clear BW' hz' y1 b1 hg
      obtain ⟨e0, e1, e2, e3, e4, e5, e6, e7⟩ := H.out.cells
      have eq0 : _ = some (Value.int .u8 x.q.d) := H.out.q.1.cell 0
      have eq1 : _ = some (Value.bool x.q.due) := H.out.q.1.cell 1
      first | (refine hK.out _ _ ?_ (fun hHeld => ?_)) | (go_wp2_with fail; refine hK.out _ _ ?_ (fun hHeld => ?_))
      · (try dsimp only); exact ⟨e0, e1, e2, e3, e4, e5, e6, e7, eq0, eq1⟩
      clear hK K
      try simp only [Act.put, List.setIfInBounds_toArray, List.set_cons_zero, List.set_cons_succ]
      clear e0 e1 e2 e3 e4 e5 e6 e7 eq0 eq1
      refine rg_of (rs := [24, 34]) (fuel := 6) (by kernel_rfl) rfl ?_
      refine rg_step (i := 24) (l := #[true, true, true, true, true, true, true, true, true, true, true, true, true, true, true, true, true, true, true, true, true, true, true, true, true, true, true, true, true, true, true, true, true, true, false, true, true, true, true, false, true, true, true, true, false, true, true, true, true, false, false, false]) rfl (by kernel_rfl) (by kernel_rfl) ?_ ?_
      · intro K hK
        go_simp
        have b1 : Below w2.heap.size w2 (w2.alloc (.cells #[.int .u8 x.q.d, .bool x.q.due] 105)) := (Below.refl _ _).alloc (Nat.le_refl _) _
        have Nq : Hid (RQ (w2.alloc (.cells #[.int .u8 x.q.d, .bool x.q.due] 105)) w2.heap.size x.q) := Lib.hid ⟨Blk.new w2 _ _, H.out.q.2⟩
        replace Nt := Lib.hid (And.intro (Nt.out.1.below b1 Nt.out.1.lt) Nt.out.2)
        replace Np := Lib.hid (And.intro (Np.out.1.below b1 Np.out.1.lt) Np.out.2)
        have BW' := Lib.hid (BW.out.trans (b1.mono hz))
        replace H := Lib.hid (H.out.keep b1)
        have hz' : B ≤ (w2.alloc (.cells #[.int .u8 x.q.d, .bool x.q.due] 105)).heap.size := Nat.le_trans hz b1.size
        have zq : B ≤ w2.heap.size := hz
        clear BW hz
        have BW := BW'
        have hz := hz'
        clear BW' hz' b1
        obtain ⟨e0, e1, e2, e3, e4, e5, e6, e7⟩ := H.out.cells
        have eq0 : _ = some (Value.int .u8 x.q.d) := H.out.q.1.cell 0
        have eq1 : _ = some (Value.bool x.q.due) := H.out.q.1.cell 1
        first | (refine hK.out _ _ ?_ (fun hHeld => ?_)) | (go_wp2_with fail; refine hK.out _ _ ?_ (fun hHeld => ?_))
        · (try dsimp only); exact ⟨e0, e1, e2, e3, e4, e5, e6, e7, eq0, eq1⟩
        clear hK K
        try simp only [Act.put, List.setIfInBounds_toArray, List.set_cons_zero, List.set_cons_succ]
        generalize hgq : w2.heap.size = gq at *
        generalize World.alloc w2 _ = w3 at *
        clear e0 e1 e2 e3 e4 e5 e6 e7 eq0 eq1
        refine rg_next (i := 34) (l := #[true, true, true, true, true, true, true, true, true, true, true, true, true, true, true, true, true, true, true, true, true, true, true, true, true, true, true, true, true, true, true, true, true, true, true, true, true, true, true, false, true, true, true, true, false, true, true, true, true, false, false, false]) (fuel := 5) (by kernel_rfl) rfl (by kernel_rfl) (by kernel_rfl) (fun K hK => ?_)
        go_simp
        (go_at_call 104)
        refine (rfcopy_any H.out.v).mono ?_
        rintro e w4 ⟨rfl, y1, b1⟩
        obtain ⟨gv, hg⟩ : ∃ g, w3.heap.size = g := ⟨_, rfl⟩
        have Nv : Hid (Blk w4 gv 113 (rfC Z.A1 d.nv Z.c1 x.tv)) := Lib.hid (hg ▸ y1)
        simp only [hg]
        have zv : B ≤ gv := by omega
        replace Nt := Lib.hid (And.intro (Nt.out.1.below b1 Nt.out.1.lt) Nt.out.2)
        replace Np := Lib.hid (And.intro (Np.out.1.below b1 Np.out.1.lt) Np.out.2)
        replace Nq := Lib.hid (And.intro (Nq.out.1.below b1 Nq.out.1.lt) Nq.out.2)
        have BW' := Lib.hid (BW.out.trans (b1.mono hz))
        replace H := Lib.hid (H.out.keep b1)
        have hz' : B ≤ w4.heap.size := Nat.le_trans hz b1.size
        clear BW hz
        have BW := BW'
        have hz := hz'
        clear BW' hz' y1 b1 hg
        obtain ⟨e0, e1, e2, e3, e4, e5, e6, e7⟩ := H.out.cells
        have eq0 : _ = some (Value.int .u8 x.q.d) := H.out.q.1.cell 0
        have eq1 : _ = some (Value.bool x.q.due) := H.out.q.1.cell 1
        first | (refine hK.out _ _ ?_ (fun hHeld => ?_)) | (go_wp2_with fail; refine hK.out _ _ ?_ (fun hHeld => ?_))
        · (try dsimp only); exact ⟨e0, e1, e2, e3, e4, e5, e6, e7, eq0, eq1⟩
        clear hK K
        try simp only [Act.put, List.setIfInBounds_toArray, List.set_cons_zero, List.set_cons_succ]
        clear e0 e1 e2 e3 e4 e5 e6 e7 eq0 eq1
        refine rg_next (i := 39) (l := #[true, true, true, true, true, true, true, true, true, true, true, true, true, true, true, true, true, true, true, true, true, true, true, true, true, true, true, true, true, true, true, true, true, true, true, true, true, true, true, true, true, true, true, true, false, true, true, true, true, false, false, false]) (fuel := 4) (by kernel_rfl) rfl (by kernel_rfl) (by kernel_rfl) (fun K hK => ?_)
        go_simp
        (go_at_call 104)
        refine (rfcopy_any H.out.c).mono ?_
        rintro e w5 ⟨rfl, y1, b1⟩
        obtain ⟨gc, hg⟩ : ∃ g, w4.heap.size = g := ⟨_, rfl⟩
        have Nc : Hid (Blk w5 gc 113 (rfC Z.A2 d.nc Z.c2 x.tc)) := Lib.hid (hg ▸ y1)
        simp only [hg]
        have zc : B ≤ gc := by omega
        have hvc : gv ≠ gc := (by have := Nv.out.lt; omega)
        replace Nt := Lib.hid (And.intro (Nt.out.1.below b1 Nt.out.1.lt) Nt.out.2)
        replace Np := Lib.hid (And.intro (Np.out.1.below b1 Np.out.1.lt) Np.out.2)
        replace Nq := Lib.hid (And.intro (Nq.out.1.below b1 Nq.out.1.lt) Nq.out.2)
        replace Nv := Lib.hid (Nv.out.below b1 Nv.out.lt)
        have BW' := Lib.hid (BW.out.trans (b1.mono hz))
        replace H := Lib.hid (H.out.keep b1)
        have hz' : B ≤ w5.heap.size := Nat.le_trans hz b1.size
        clear BW hz
        have BW := BW'
        have hz := hz'
        clear BW' hz' y1 b1 hg
        obtain ⟨e0, e1, e2, e3, e4, e5, e6, e7⟩ := H.out.cells
        have eq0 : _ = some (Value.int .u8 x.q.d) := H.out.q.1.cell 0
        have eq1 : _ = some (Value.bool x.q.due) := H.out.q.1.cell 1
        first | (refine hK.out _ _ ?_ (fun hHeld => ?_)) | (go_wp2_with fail; refine hK.out _ _ ?_ (fun hHeld => ?_))
        · (try dsimp only); exact ⟨e0, e1, e2, e3, e4, e5, e6, e7, eq0, eq1⟩
        clear hK K
        try simp only [Act.put, List.setIfInBounds_toArray, List.set_cons_zero, List.set_cons_succ]
        clear e0 e1 e2 e3 e4 e5 e6 e7 eq0 eq1
        refine rg_next (i := 44) (l := #[true, true, true, true, true, true, true, true, true, true, true, true, true, true, true, true, true, true, true, true, true, true, true, true, true, true, true, true, true, true, true, true, true, true, true, true, true, true, true, true, true, true, true, true, true, true, true, true, true, false, false, false]) (fuel := 3) (by kernel_rfl) rfl (by kernel_rfl) (by kernel_rfl) (fun K hK => ?_)
        go_simp
        (go_at_call 105)
        refine (rlcopy_any H.out.l).mono ?_
        rintro e w6 ⟨rfl, y1, b1⟩
        obtain ⟨gl, hg⟩ : ∃ g, w5.heap.size = g := ⟨_, rfl⟩
        have Nl : Hid (Blk w6 gl 115 (rlC Z.A d.n Z.c x.s x.ro)) := Lib.hid (hg ▸ y1)
        simp only [hg]
        have zl : B ≤ gl := by omega
        replace Nt := Lib.hid (And.intro (Nt.out.1.below b1 Nt.out.1.lt) Nt.out.2)
        replace Np := Lib.hid (And.intro (Np.out.1.below b1 Np.out.1.lt) Np.out.2)
        replace Nq := Lib.hid (And.intro (Nq.out.1.below b1 Nq.out.1.lt) Nq.out.2)
        replace Nv := Lib.hid (Nv.out.below b1 Nv.out.lt)
        replace Nc := Lib.hid (Nc.out.below b1 Nc.out.lt)
        have BW' := Lib.hid (BW.out.trans (b1.mono hz))
        replace H := Lib.hid (H.out.keep b1)
        have hz' : B ≤ w6.heap.size := Nat.le_trans hz b1.size
        clear BW hz
        have BW := BW'
        have hz := hz'
        clear BW' hz' y1 b1 hg
        obtain ⟨e0, e1, e2, e3, e4, e5, e6, e7⟩ := H.out.cells
        have eq0 : _ = some (Value.int .u8 x.q.d) := H.out.q.1.cell 0
        have eq1 : _ = some (Value.bool x.q.due) := H.out.q.1.cell 1
        first | (refine hK.out _ _ ?_ (fun hHeld => ?_)) | (go_wp2_with fail; refine hK.out _ _ ?_ (fun hHeld => ?_))
        · (try dsimp only); exact ⟨e0, e1, e2, e3, e4, e5, e6, e7, eq0, eq1⟩
        clear hK K
        refine rgt 49 (some 52) (v := ?_) rfl ?_ ?_
        rotate_left 1
        · (intro wS hSw; (try dsimp only at hSw); go_simp; try with_reducible rfl)
        try simp only [Act.put, List.setIfInBounds_toArray, List.set_cons_zero, List.set_cons_succ]
        refine rg_next (i := 50) (l := #[true, true, true, true, true, true, true, true, true, true, true, true, true, true, true, true, true, true, true, true, true, true, true, true, true, true, true, true, true, true, true, true, true, true, true, true, true, true, true, true, true, true, true, true, true, true, true, true, true, true, true, false]) (fuel := 1) (by kernel_rfl) rfl (by kernel_rfl) (by kernel_rfl) (fun K hK => ?_)
        go_simp
        have b1 : Below w6.heap.size w6 (w6.alloc (.cells #[.int .u8 x.buf, .pointer (some ⟨gt, 0, none⟩), .pointer (some ⟨gq, 0, none⟩), .pointer (some ⟨gp, 0, none⟩), .pointer (some ⟨gv, 0, none⟩), .pointer (some ⟨gc, 0, none⟩), .pointer (some ⟨gl, 0, none⟩), .int .i64 x.now] 111)) := (Below.refl _ _).alloc (Nat.le_refl _) _
        have NP : Hid (RHp (w6.alloc (.cells #[.int .u8 x.buf, .pointer (some ⟨gt, 0, none⟩), .pointer (some ⟨gq, 0, none⟩), .pointer (some ⟨gp, 0, none⟩), .pointer (some ⟨gv, 0, none⟩), .pointer (some ⟨gc, 0, none⟩), .pointer (some ⟨gl, 0, none⟩), .int .i64 x.now] 111)) w6.heap.size d ⟨gt, gq, gp, gv, gc, gl⟩ Z x) := Lib.hid ⟨Blk.new w6 _ _, And.intro (Nt.out.1.below b1 Nt.out.1.lt) Nt.out.2, And.intro (Nq.out.1.below b1 Nq.out.1.lt) Nq.out.2, And.intro (Np.out.1.below b1 Np.out.1.lt) Np.out.2, Nv.out.below b1 Nv.out.lt, Nc.out.below b1 Nc.out.lt, Nl.out.below b1 Nl.out.lt, hvc⟩
        have BX := Lib.hid (BW.out.trans (b1.mono hz))
        replace H := Lib.hid (H.out.keep b1)
        obtain ⟨e0, e1, e2, e3, e4, e5, e6, e7⟩ := H.out.cells
        have eq0 : _ = some (Value.int .u8 x.q.d) := H.out.q.1.cell 0
        have eq1 : _ = some (Value.bool x.q.due) := H.out.q.1.cell 1
        first | (refine hK.out _ _ ?_ (fun hHeld => ?_)) | (go_wp2_with fail; refine hK.out _ _ ?_ (fun hHeld => ?_))
        · (try dsimp only); exact ⟨e0, e1, e2, e3, e4, e5, e6, e7, eq0, eq1⟩
        clear hK K
        refine rgt 51 (some 2) (v := ?_) rfl ?_ ?_
        rotate_left 1
        · (intro wS hSw; (try dsimp only at hSw); go_simp; try with_reducible rfl)
        try simp only [Act.put, List.setIfInBounds_toArray, List.set_cons_zero, List.set_cons_succ]
        refine wpAnyH_done (by kernel_rfl) ?_ _
        clear hHeld
        go_wp2_with fail
        go_ret
        exact ⟨w6.heap.size, ⟨gt, gq, gp, gv, gc, gl⟩, rfl, (by rw [HBB.out]; simp [Rr.all]; omega), NP.out, H.out, by rw [HBB.out]; exact BX.out⟩
      refine rg_step (i := 34) (l := #[true, true, true, true, true, true, true, true, true, true, true, true, true, true, true, true, true, true, true, true, true, true, true, true, false, true, true, true, true, true, true, true, true, true, true, true, true, true, true, false, true, true, true, true, false, true, true, true, true, false, false, false]) rfl (by kernel_rfl) (by kernel_rfl) ?_ ?_
      · intro K hK
        go_simp
        (go_at_call 104)
        refine (rfcopy_any H.out.v).mono ?_
        rintro e w3 ⟨rfl, y1, b1⟩
        obtain ⟨gv, hg⟩ : ∃ g, w2.heap.size = g := ⟨_, rfl⟩
        have Nv : Hid (Blk w3 gv 113 (rfC Z.A1 d.nv Z.c1 x.tv)) := Lib.hid (hg ▸ y1)
        simp only [hg]
        have zv : B ≤ gv := by omega
        replace Nt := Lib.hid (And.intro (Nt.out.1.below b1 Nt.out.1.lt) Nt.out.2)
        replace Np := Lib.hid (And.intro (Np.out.1.below b1 Np.out.1.lt) Np.out.2)
        have BW' := Lib.hid (BW.out.trans (b1.mono hz))
        replace H := Lib.hid (H.out.keep b1)
        have hz' : B ≤ w3.heap.size := Nat.le_trans hz b1.size
        clear BW hz
        have BW := BW'
        have hz := hz'
        clear BW' hz' y1 b1 hg
        obtain ⟨e0, e1, e2, e3, e4, e5, e6, e7⟩ := H.out.cells
        have eq0 : _ = some (Value.int .u8 x.q.d) := H.out.q.1.cell 0
        have eq1 : _ = some (Value.bool x.q.due) := H.out.q.1.cell 1
        first | (refine hK.out _ _ ?_ (fun hHeld => ?_)) | (go_wp2_with fail; refine hK.out _ _ ?_ (fun hHeld => ?_))
        · (try dsimp only); exact ⟨e0, e1, e2, e3, e4, e5, e6, e7, eq0, eq1⟩
        clear hK K
        try simp only [Act.put, List.setIfInBounds_toArray, List.set_cons_zero, List.set_cons_succ]
        clear e0 e1 e2 e3 e4 e5 e6 e7 eq0 eq1
        refine rg_of (rs := [24, 39]) (fuel := 5) (by kernel_rfl) rfl ?_
        refine rg_step (i := 24) (l := #[true, true, true, true, true, true, true, true, true, true, true, true, true, true, true, true, true, true, true, true, true, true, true, true, true, true, true, true, true, true, true, true, true, true, true, true, true, true, true, false, true, true, true, true, false, true, true, true, true, false, false, false]) rfl (by kernel_rfl) (by kernel_rfl) ?_ ?_
        · intro K hK
          go_simp
          have b1 : Below w3.heap.size w3 (w3.alloc (.cells #[.int .u8 x.q.d, .bool x.q.due] 105)) := (Below.refl _ _).alloc (Nat.le_refl _) _
          have Nq : Hid (RQ (w3.alloc (.cells #[.int .u8 x.q.d, .bool x.q.due] 105)) w3.heap.size x.q) := Lib.hid ⟨Blk.new w3 _ _, H.out.q.2⟩
          replace Nt := Lib.hid (And.intro (Nt.out.1.below b1 Nt.out.1.lt) Nt.out.2)
          replace Np := Lib.hid (And.intro (Np.out.1.below b1 Np.out.1.lt) Np.out.2)
          replace Nv := Lib.hid (Nv.out.below b1 Nv.out.lt)
          have BW' := Lib.hid (BW.out.trans (b1.mono hz))
          replace H := Lib.hid (H.out.keep b1)
          have hz' : B ≤ (w3.alloc (.cells #[.int .u8 x.q.d, .bool x.q.due] 105)).heap.size := Nat.le_trans hz b1.size
          have zq : B ≤ w3.heap.size := hz
          clear BW hz
          have BW := BW'
          have hz := hz'
          clear BW' hz' b1
          obtain ⟨e0, e1, e2, e3, e4, e5, e6, e7⟩ := H.out.cells
          have eq0 : _ = some (Value.int .u8 x.q.d) := H.out.q.1.cell 0
          have eq1 : _ = some (Value.bool x.q.due) := H.out.q.1.cell 1
          first | (refine hK.out _ _ ?_ (fun hHeld => ?_)) | (go_wp2_with fail; refine hK.out _ _ ?_ (fun hHeld => ?_))
          · (try dsimp only); exact ⟨e0, e1, e2, e3, e4, e5, e6, e7, eq0, eq1⟩
          clear hK K
          try simp only [Act.put, List.setIfInBounds_toArray, List.set_cons_zero, List.set_cons_succ]
          generalize hgq : w3.heap.size = gq at *
          generalize World.alloc w3 _ = w4 at *
          clear e0 e1 e2 e3 e4 e5 e6 e7 eq0 eq1
          refine rg_next (i := 39) (l := #[true, true, true, true, true, true, true, true, true, true, true, true, true, true, true, true, true, true, true, true, true, true, true, true, true, true, true, true, true, true, true, true, true, true, true, true, true, true, true, true, true, true, true, true, false, true, true, true, true, false, false, false]) (fuel := 4) (by kernel_rfl) rfl (by kernel_rfl) (by kernel_rfl) (fun K hK => ?_)
          go_simp
          (go_at_call 104)
          refine (rfcopy_any H.out.c).mono ?_
          rintro e w5 ⟨rfl, y1, b1⟩
          obtain ⟨gc, hg⟩ : ∃ g, w4.heap.size = g := ⟨_, rfl⟩
          have Nc : Hid (Blk w5 gc 113 (rfC Z.A2 d.nc Z.c2 x.tc)) := Lib.hid (hg ▸ y1)
          simp only [hg]
          have zc : B ≤ gc := by omega
          have hvc : gv ≠ gc := (by have := Nv.out.lt; omega)
          replace Nt := Lib.hid (And.intro (Nt.out.1.below b1 Nt.out.1.lt) Nt.out.2)
          replace Np := Lib.hid (And.intro (Np.out.1.below b1 Np.out.1.lt) Np.out.2)
          replace Nv := Lib.hid (Nv.out.below b1 Nv.out.lt)
          replace Nq := Lib.hid (And.intro (Nq.out.1.below b1 Nq.out.1.lt) Nq.out.2)
          have BW' := Lib.hid (BW.out.trans (b1.mono hz))
          replace H := Lib.hid (H.out.keep b1)
          have hz' : B ≤ w5.heap.size := Nat.le_trans hz b1.size
          clear BW hz
          have BW := BW'
          have hz := hz'
          clear BW' hz' y1 b1 hg
          obtain ⟨e0, e1, e2, e3, e4, e5, e6, e7⟩ := H.out.cells
          have eq0 : _ = some (Value.int .u8 x.q.d) := H.out.q.1.cell 0
          have eq1 : _ = some (Value.bool x.q.due) := H.out.q.1.cell 1
          first | (refine hK.out _ _ ?_ (fun hHeld => ?_)) | (go_wp2_with fail; refine hK.out _ _ ?_ (fun hHeld => ?_))
          · (try dsimp only); exact ⟨e0, e1, e2, e3, e4, e5, e6, e7, eq0, eq1⟩
          clear hK K
          try simp only [Act.put, List.setIfInBounds_toArray, List.set_cons_zero, List.set_cons_succ]
          clear e0 e1 e2 e3 e4 e5 e6 e7 eq0 eq1
          refine rg_next (i := 44) (l := #[true, true, true, true, true, true, true, true, true, true, true, true, true, true, true, true, true, true, true, true, true, true, true, true, true, true, true, true, true, true, true, true, true, true, true, true, true, true, true, true, true, true, true, true, true, true, true, true, true, false, false, false]) (fuel := 3) (by kernel_rfl) rfl (by kernel_rfl) (by kernel_rfl) (fun K hK => ?_)
          go_simp
          (go_at_call 105)
          refine (rlcopy_any H.out.l).mono ?_
          rintro e w6 ⟨rfl, y1, b1⟩
          obtain ⟨gl, hg⟩ : ∃ g, w5.heap.size = g := ⟨_, rfl⟩
          have Nl : Hid (Blk w6 gl 115 (rlC Z.A d.n Z.c x.s x.ro)) := Lib.hid (hg ▸ y1)
          simp only [hg]
          have zl : B ≤ gl := by omega
          replace Nt := Lib.hid (And.intro (Nt.out.1.below b1 Nt.out.1.lt) Nt.out.2)
          replace Np := Lib.hid (And.intro (Np.out.1.below b1 Np.out.1.lt) Np.out.2)
          replace Nv := Lib.hid (Nv.out.below b1 Nv.out.lt)
          replace Nq := Lib.hid (And.intro (Nq.out.1.below b1 Nq.out.1.lt) Nq.out.2)
          replace Nc := Lib.hid (Nc.out.below b1 Nc.out.lt)
          have BW' := Lib.hid (BW.out.trans (b1.mono hz))
          replace H := Lib.hid (H.out.keep b1)
          have hz' : B ≤ w6.heap.size := Nat.le_trans hz b1.size
          clear BW hz
          have BW := BW'
          have hz := hz'
          clear BW' hz' y1 b1 hg
          obtain ⟨e0, e1, e2, e3, e4, e5, e6, e7⟩ := H.out.cells
          have eq0 : _ = some (Value.int .u8 x.q.d) := H.out.q.1.cell 0
          have eq1 : _ = some (Value.bool x.q.due) := H.out.q.1.cell 1
          first | (refine hK.out _ _ ?_ (fun hHeld => ?_)) | (go_wp2_with fail; refine hK.out _ _ ?_ (fun hHeld => ?_))
          · (try dsimp only); exact ⟨e0, e1, e2, e3, e4, e5, e6, e7, eq0, eq1⟩
          clear hK K
          refine rgt 49 (some 52) (v := ?_) rfl ?_ ?_
          rotate_left 1
          · (intro wS hSw; (try dsimp only at hSw); go_simp; try with_reducible rfl)
          try simp only [Act.put, List.setIfInBounds_toArray, List.set_cons_zero, List.set_cons_succ]
          refine rg_next (i := 50) (l := #[true, true, true, true, true, true, true, true, true, true, true, true, true, true, true, true, true, true, true, true, true, true, true, true, true, true, true, true, true, true, true, true, true, true, true, true, true, true, true, true, true, true, true, true, true, true, true, true, true, true, true, false]) (fuel := 1) (by kernel_rfl) rfl (by kernel_rfl) (by kernel_rfl) (fun K hK => ?_)
          go_simp
          have b1 : Below w6.heap.size w6 (w6.alloc (.cells #[.int .u8 x.buf, .pointer (some ⟨gt, 0, none⟩), .pointer (some ⟨gq, 0, none⟩), .pointer (some ⟨gp, 0, none⟩), .pointer (some ⟨gv, 0, none⟩), .pointer (some ⟨gc, 0, none⟩), .pointer (some ⟨gl, 0, none⟩), .int .i64 x.now] 111)) := (Below.refl _ _).alloc (Nat.le_refl _) _
          have NP : Hid (RHp (w6.alloc (.cells #[.int .u8 x.buf, .pointer (some ⟨gt, 0, none⟩), .pointer (some ⟨gq, 0, none⟩), .pointer (some ⟨gp, 0, none⟩), .pointer (some ⟨gv, 0, none⟩), .pointer (some ⟨gc, 0, none⟩), .pointer (some ⟨gl, 0, none⟩), .int .i64 x.now] 111)) w6.heap.size d ⟨gt, gq, gp, gv, gc, gl⟩ Z x) := Lib.hid ⟨Blk.new w6 _ _, And.intro (Nt.out.1.below b1 Nt.out.1.lt) Nt.out.2, And.intro (Nq.out.1.below b1 Nq.out.1.lt) Nq.out.2, And.intro (Np.out.1.below b1 Np.out.1.lt) Np.out.2, Nv.out.below b1 Nv.out.lt, Nc.out.below b1 Nc.out.lt, Nl.out.below b1 Nl.out.lt, hvc⟩
          have BX := Lib.hid (BW.out.trans (b1.mono hz))
          replace H := Lib.hid (H.out.keep b1)
          obtain ⟨e0, e1, e2, e3, e4, e5, e6, e7⟩ := H.out.cells
          have eq0 : _ = some (Value.int .u8 x.q.d) := H.out.q.1.cell 0
          have eq1 : _ = some (Value.bool x.q.due) := H.out.q.1.cell 1
          first | (refine hK.out _ _ ?_ (fun hHeld => ?_)) | (go_wp2_with fail; refine hK.out _ _ ?_ (fun hHeld => ?_))
          · (try dsimp only); exact ⟨e0, e1, e2, e3, e4, e5, e6, e7, eq0, eq1⟩
          clear hK K
          refine rgt 51 (some 2) (v := ?_) rfl ?_ ?_
          rotate_left 1
          · (intro wS hSw; (try dsimp only at hSw); go_simp; try with_reducible rfl)
          try simp only [Act.put, List.setIfInBounds_toArray, List.set_cons_zero, List.set_cons_succ]
          refine wpAnyH_done (by kernel_rfl) ?_ _
          clear hHeld
          go_wp2_with fail
          go_ret
          exact ⟨w6.heap.size, ⟨gt, gq, gp, gv, gc, gl⟩, rfl, (by rw [HBB.out]; simp [Rr.all]; omega), NP.out, H.out, by rw [HBB.out]; exact BX.out⟩
        refine rg_step (i := 39) (l := #[true, true, true, true, true, true, true, true, true, true, true, true, true, true, true, true, true, true, true, true, true, true, true, true, false, true, true, true, true, true, true, true, true, true, true, true, true, true, true, true, true, true, true, true, false, true, true, true, true, false, false, false]) rfl (by kernel_rfl) (by kernel_rfl) ?_ ?_
        · intro K hK
          go_simp
          (go_at_call 104)
          refine (rfcopy_any H.out.c).mono ?_
          rintro e w4 ⟨rfl, y1, b1⟩
          obtain ⟨gc, hg⟩ : ∃ g, w3.heap.size = g := ⟨_, rfl⟩
          have Nc : Hid (Blk w4 gc 113 (rfC Z.A2 d.nc Z.c2 x.tc)) := Lib.hid (hg ▸ y1)
          simp only [hg]
          have zc : B ≤ gc := by omega
          have hvc : gv ≠ gc := (by have := Nv.out.lt; omega)
          replace Nt := Lib.hid (And.intro (Nt.out.1.below b1 Nt.out.1.lt) Nt.out.2)
          replace Np := Lib.hid (And.intro (Np.out.1.below b1 Np.out.1.lt) Np.out.2)
          replace Nv := Lib.hid (Nv.out.below b1 Nv.out.lt)
          have BW' := Lib.hid (BW.out.trans (b1.mono hz))
          replace H := Lib.hid (H.out.keep b1)
          have hz' : B ≤ w4.heap.size := Nat.le_trans hz b1.size
          clear BW hz
          have BW := BW'
          have hz := hz'
          clear BW' hz' y1 b1 hg
          obtain ⟨e0, e1, e2, e3, e4, e5, e6, e7⟩ := H.out.cells
          have eq0 : _ = some (Value.int .u8 x.q.d) := H.out.q.1.cell 0
          have eq1 : _ = some (Value.bool x.q.due) := H.out.q.1.cell 1
          first | (refine hK.out _ _ ?_ (fun hHeld => ?_)) | (go_wp2_with fail; refine hK.out _ _ ?_ (fun hHeld => ?_))
          · (try dsimp only); exact ⟨e0, e1, e2, e3, e4, e5, e6, e7, eq0, eq1⟩
          clear hK K
          try simp only [Act.put, List.setIfInBounds_toArray, List.set_cons_zero, List.set_cons_succ]
          clear e0 e1 e2 e3 e4 e5 e6 e7 eq0 eq1
          refine rg_of (rs := [24, 44]) (fuel := 4) (by kernel_rfl) rfl ?_
          refine rg_step (i := 24) (l := #[true, true, true, true, true, true, true, true, true, true, true, true, true, true, true, true, true, true, true, true, true, true, true, true, true, true, true, true, true, true, true, true, true, true, true, true, true, true, true, true, true, true, true, true, false, true, true, true, true, false, false, false]) rfl (by kernel_rfl) (by kernel_rfl) ?_ ?_
          · intro K hK
            go_simp
            have b1 : Below w4.heap.size w4 (w4.alloc (.cells #[.int .u8 x.q.d, .bool x.q.due] 105)) := (Below.refl _ _).alloc (Nat.le_refl _) _
            have Nq : Hid (RQ (w4.alloc (.cells #[.int .u8 x.q.d, .bool x.q.due] 105)) w4.heap.size x.q) := Lib.hid ⟨Blk.new w4 _ _, H.out.q.2⟩
            replace Nt := Lib.hid (And.intro (Nt.out.1.below b1 Nt.out.1.lt) Nt.out.2)
            replace Np := Lib.hid (And.intro (Np.out.1.below b1 Np.out.1.lt) Np.out.2)
            replace Nv := Lib.hid (Nv.out.below b1 Nv.out.lt)
            replace Nc := Lib.hid (Nc.out.below b1 Nc.out.lt)
            have BW' := Lib.hid (BW.out.trans (b1.mono hz))
            replace H := Lib.hid (H.out.keep b1)
            have hz' : B ≤ (w4.alloc (.cells #[.int .u8 x.q.d, .bool x.q.due] 105)).heap.size := Nat.le_trans hz b1.size
            have zq : B ≤ w4.heap.size := hz
            clear BW hz
            have BW := BW'
            have hz := hz'
            clear BW' hz' b1
            obtain ⟨e0, e1, e2, e3, e4, e5, e6, e7⟩ := H.out.cells
            have eq0 : _ = some (Value.int .u8 x.q.d) := H.out.q.1.cell 0
            have eq1 : _ = some (Value.bool x.q.due) := H.out.q.1.cell 1
            first | (refine hK.out _ _ ?_ (fun hHeld => ?_)) | (go_wp2_with fail; refine hK.out _ _ ?_ (fun hHeld => ?_))
            · (try dsimp only); exact ⟨e0, e1, e2, e3, e4, e5, e6, e7, eq0, eq1⟩
            clear hK K
            try simp only [Act.put, List.setIfInBounds_toArray, List.set_cons_zero, List.set_cons_succ]
            generalize hgq : w4.heap.size = gq at *
            generalize World.alloc w4 _ = w5 at *
            clear e0 e1 e2 e3 e4 e5 e6 e7 eq0 eq1
            refine rg_next (i := 44) (l := #[true, true, true, true, true, true, true, true, true, true, true, true, true, true, true, true, true, true, true, true, true, true, true, true, true, true, true, true, true, true, true, true, true, true, true, true, true, true, true, true, true, true, true, true, true, true, true, true, true, false, false, false]) (fuel := 3) (by kernel_rfl) rfl (by kernel_rfl) (by kernel_rfl) (fun K hK => ?_)
            go_simp
            (go_at_call 105)
            refine (rlcopy_any H.out.l).mono ?_
            rintro e w6 ⟨rfl, y1, b1⟩
            obtain ⟨gl, hg⟩ : ∃ g, w5.heap.size = g := ⟨_, rfl⟩
            have Nl : Hid (Blk w6 gl 115 (rlC Z.A d.n Z.c x.s x.ro)) := Lib.hid (hg ▸ y1)
            simp only [hg]
            have zl : B ≤ gl := by omega
            replace Nt := Lib.hid (And.intro (Nt.out.1.below b1 Nt.out.1.lt) Nt.out.2)
            replace Np := Lib.hid (And.intro (Np.out.1.below b1 Np.out.1.lt) Np.out.2)
            replace Nv := Lib.hid (Nv.out.below b1 Nv.out.lt)
            replace Nc := Lib.hid (Nc.out.below b1 Nc.out.lt)
            replace Nq := Lib.hid (And.intro (Nq.out.1.below b1 Nq.out.1.lt) Nq.out.2)
            have BW' := Lib.hid (BW.out.trans (b1.mono hz))
            replace H := Lib.hid (H.out.keep b1)
            have hz' : B ≤ w6.heap.size := Nat.le_trans hz b1.size
            clear BW hz
            have BW := BW'
            have hz := hz'
            clear BW' hz' y1 b1 hg
            obtain ⟨e0, e1, e2, e3, e4, e5, e6, e7⟩ := H.out.cells
            have eq0 : _ = some (Value.int .u8 x.q.d) := H.out.q.1.cell 0
            have eq1 : _ = some (Value.bool x.q.due) := H.out.q.1.cell 1
            first | (refine hK.out _ _ ?_ (fun hHeld => ?_)) | (go_wp2_with fail; refine hK.out _ _ ?_ (fun hHeld => ?_))
            · (try dsimp only); exact ⟨e0, e1, e2, e3, e4, e5, e6, e7, eq0, eq1⟩
            clear hK K
            refine rgt 49 (some 52) (v := ?_) rfl ?_ ?_
            rotate_left 1
            · (intro wS hSw; (try dsimp only at hSw); go_simp; try with_reducible rfl)
            try simp only [Act.put, List.setIfInBounds_toArray, List.set_cons_zero, List.set_cons_succ]
            refine rg_next (i := 50) (l := #[true, true, true, true, true, true, true, true, true, true, true, true, true, true, true, true, true, true, true, true, true, true, true, true, true, true, true, true, true, true, true, true, true, true, true, true, true, true, true, true, true, true, true, true, true, true, true, true, true, true, true, false]) (fuel := 1) (by kernel_rfl) rfl (by kernel_rfl) (by kernel_rfl) (fun K hK => ?_)
            go_simp
            have b1 : Below w6.heap.size w6 (w6.alloc (.cells #[.int .u8 x.buf, .pointer (some ⟨gt, 0, none⟩), .pointer (some ⟨gq, 0, none⟩), .pointer (some ⟨gp, 0, none⟩), .pointer (some ⟨gv, 0, none⟩), .pointer (some ⟨gc, 0, none⟩), .pointer (some ⟨gl, 0, none⟩), .int .i64 x.now] 111)) := (Below.refl _ _).alloc (Nat.le_refl _) _
            have NP : Hid (RHp (w6.alloc (.cells #[.int .u8 x.buf, .pointer (some ⟨gt, 0, none⟩), .pointer (some ⟨gq, 0, none⟩), .pointer (some ⟨gp, 0, none⟩), .pointer (some ⟨gv, 0, none⟩), .pointer (some ⟨gc, 0, none⟩), .pointer (some ⟨gl, 0, none⟩), .int .i64 x.now] 111)) w6.heap.size d ⟨gt, gq, gp, gv, gc, gl⟩ Z x) := Lib.hid ⟨Blk.new w6 _ _, And.intro (Nt.out.1.below b1 Nt.out.1.lt) Nt.out.2, And.intro (Nq.out.1.below b1 Nq.out.1.lt) Nq.out.2, And.intro (Np.out.1.below b1 Np.out.1.lt) Np.out.2, Nv.out.below b1 Nv.out.lt, Nc.out.below b1 Nc.out.lt, Nl.out.below b1 Nl.out.lt, hvc⟩
            have BX := Lib.hid (BW.out.trans (b1.mono hz))
            replace H := Lib.hid (H.out.keep b1)
            obtain ⟨e0, e1, e2, e3, e4, e5, e6, e7⟩ := H.out.cells
            have eq0 : _ = some (Value.int .u8 x.q.d) := H.out.q.1.cell 0
            have eq1 : _ = some (Value.bool x.q.due) := H.out.q.1.cell 1
            first | (refine hK.out _ _ ?_ (fun hHeld => ?_)) | (go_wp2_with fail; refine hK.out _ _ ?_ (fun hHeld => ?_))
            · (try dsimp only); exact ⟨e0, e1, e2, e3, e4, e5, e6, e7, eq0, eq1⟩
            clear hK K
            refine rgt 51 (some 2) (v := ?_) rfl ?_ ?_
            rotate_left 1
            · (intro wS hSw; (try dsimp only at hSw); go_simp; try with_reducible rfl)
            try simp only [Act.put, List.setIfInBounds_toArray, List.set_cons_zero, List.set_cons_succ]
            refine wpAnyH_done (by kernel_rfl) ?_ _
            clear hHeld
            go_wp2_with fail
            go_ret
            exact ⟨w6.heap.size, ⟨gt, gq, gp, gv, gc, gl⟩, rfl, (by rw [HBB.out]; simp [Rr.all]; omega), NP.out, H.out, by rw [HBB.out]; exact BX.out⟩
          refine rg_step (i := 44) (l := #[true, true, true, true, true, true, true, true, true, true, true, true, true, true, true, true, true, true, true, true, true, true, true, true, false, true, true, true, true, true, true, true, true, true, true, true, true, true, true, true, true, true, true, true, true, true, true, true, true, false, false, false]) rfl (by kernel_rfl) (by kernel_rfl) ?_ ?_
          · intro K hK
            go_simp
            (go_at_call 105)
            refine (rlcopy_any H.out.l).mono ?_
            rintro e w5 ⟨rfl, y1, b1⟩
            obtain ⟨gl, hg⟩ : ∃ g, w4.heap.size = g := ⟨_, rfl⟩
            have Nl : Hid (Blk w5 gl 115 (rlC Z.A d.n Z.c x.s x.ro)) := Lib.hid (hg ▸ y1)
            simp only [hg]
            have zl : B ≤ gl := by omega
            replace Nt := Lib.hid (And.intro (Nt.out.1.below b1 Nt.out.1.lt) Nt.out.2)
            replace Np := Lib.hid (And.intro (Np.out.1.below b1 Np.out.1.lt) Np.out.2)
            replace Nv := Lib.hid (Nv.out.below b1 Nv.out.lt)
            replace Nc := Lib.hid (Nc.out.below b1 Nc.out.lt)
            have BW' := Lib.hid (BW.out.trans (b1.mono hz))
            replace H := Lib.hid (H.out.keep b1)
            have hz' : B ≤ w5.heap.size := Nat.le_trans hz b1.size
            clear BW hz
            have BW := BW'
            have hz := hz'
            clear BW' hz' y1 b1 hg
            obtain ⟨e0, e1, e2, e3, e4, e5, e6, e7⟩ := H.out.cells
            have eq0 : _ = some (Value.int .u8 x.q.d) := H.out.q.1.cell 0
            have eq1 : _ = some (Value.bool x.q.due) := H.out.q.1.cell 1
            first | (refine hK.out _ _ ?_ (fun hHeld => ?_)) | (go_wp2_with fail; refine hK.out _ _ ?_ (fun hHeld => ?_))
            · (try dsimp only); exact ⟨e0, e1, e2, e3, e4, e5, e6, e7, eq0, eq1⟩
            clear hK K
            try simp only [Act.put, List.setIfInBounds_toArray, List.set_cons_zero, List.set_cons_succ]
            clear e0 e1 e2 e3 e4 e5 e6 e7 eq0 eq1
            refine rg_next (i := 24) (l := #[true, true, true, true, true, true, true, true, true, true, true, true, true, true, true, true, true, true, true, true, true, true, true, true, true, true, true, true, true, true, true, true, true, true, true, true, true, true, true, true, true, true, true, true, true, true, true, true, true, false, false, false]) (fuel := 3) (by kernel_rfl) rfl (by kernel_rfl) (by kernel_rfl) (fun K hK => ?_)
            go_simp
            have b1 : Below w5.heap.size w5 (w5.alloc (.cells #[.int .u8 x.q.d, .bool x.q.due] 105)) := (Below.refl _ _).alloc (Nat.le_refl _) _
            have Nq : Hid (RQ (w5.alloc (.cells #[.int .u8 x.q.d, .bool x.q.due] 105)) w5.heap.size x.q) := Lib.hid ⟨Blk.new w5 _ _, H.out.q.2⟩
            replace Nt := Lib.hid (And.intro (Nt.out.1.below b1 Nt.out.1.lt) Nt.out.2)
            replace Np := Lib.hid (And.intro (Np.out.1.below b1 Np.out.1.lt) Np.out.2)
            replace Nv := Lib.hid (Nv.out.below b1 Nv.out.lt)
            replace Nc := Lib.hid (Nc.out.below b1 Nc.out.lt)
            replace Nl := Lib.hid (Nl.out.below b1 Nl.out.lt)
            have BW' := Lib.hid (BW.out.trans (b1.mono hz))
            replace H := Lib.hid (H.out.keep b1)
            have hz' : B ≤ (w5.alloc (.cells #[.int .u8 x.q.d, .bool x.q.due] 105)).heap.size := Nat.le_trans hz b1.size
            have zq : B ≤ w5.heap.size := hz
            clear BW hz
            have BW := BW'
            have hz := hz'
            clear BW' hz' b1
            obtain ⟨e0, e1, e2, e3, e4, e5, e6, e7⟩ := H.out.cells
            have eq0 : _ = some (Value.int .u8 x.q.d) := H.out.q.1.cell 0
            have eq1 : _ = some (Value.bool x.q.due) := H.out.q.1.cell 1
            first | (refine hK.out _ _ ?_ (fun hHeld => ?_)) | (go_wp2_with fail; refine hK.out _ _ ?_ (fun hHeld => ?_))
            · (try dsimp only); exact ⟨e0, e1, e2, e3, e4, e5, e6, e7, eq0, eq1⟩
            clear hK K
            try simp only [Act.put, List.setIfInBounds_toArray, List.set_cons_zero, List.set_cons_succ]
            generalize hgq : w5.heap.size = gq at *
            generalize World.alloc w5 _ = w6 at *
            refine rgt 49 (some 52) (v := ?_) rfl ?_ ?_
            rotate_left 1
            · (intro wS hSw; (try dsimp only at hSw); go_simp; try with_reducible rfl)
            try simp only [Act.put, List.setIfInBounds_toArray, List.set_cons_zero, List.set_cons_succ]
            refine rg_next (i := 50) (l := #[true, true, true, true, true, true, true, true, true, true, true, true, true, true, true, true, true, true, true, true, true, true, true, true, true, true, true, true, true, true, true, true, true, true, true, true, true, true, true, true, true, true, true, true, true, true, true, true, true, true, true, false]) (fuel := 1) (by kernel_rfl) rfl (by kernel_rfl) (by kernel_rfl) (fun K hK => ?_)
            go_simp
            have b1 : Below w6.heap.size w6 (w6.alloc (.cells #[.int .u8 x.buf, .pointer (some ⟨gt, 0, none⟩), .pointer (some ⟨gq, 0, none⟩), .pointer (some ⟨gp, 0, none⟩), .pointer (some ⟨gv, 0, none⟩), .pointer (some ⟨gc, 0, none⟩), .pointer (some ⟨gl, 0, none⟩), .int .i64 x.now] 111)) := (Below.refl _ _).alloc (Nat.le_refl _) _
            have NP : Hid (RHp (w6.alloc (.cells #[.int .u8 x.buf, .pointer (some ⟨gt, 0, none⟩), .pointer (some ⟨gq, 0, none⟩), .pointer (some ⟨gp, 0, none⟩), .pointer (some ⟨gv, 0, none⟩), .pointer (some ⟨gc, 0, none⟩), .pointer (some ⟨gl, 0, none⟩), .int .i64 x.now] 111)) w6.heap.size d ⟨gt, gq, gp, gv, gc, gl⟩ Z x) := Lib.hid ⟨Blk.new w6 _ _, And.intro (Nt.out.1.below b1 Nt.out.1.lt) Nt.out.2, And.intro (Nq.out.1.below b1 Nq.out.1.lt) Nq.out.2, And.intro (Np.out.1.below b1 Np.out.1.lt) Np.out.2, Nv.out.below b1 Nv.out.lt, Nc.out.below b1 Nc.out.lt, Nl.out.below b1 Nl.out.lt, hvc⟩
            have BX := Lib.hid (BW.out.trans (b1.mono hz))
            replace H := Lib.hid (H.out.keep b1)
            obtain ⟨e0, e1, e2, e3, e4, e5, e6, e7⟩ := H.out.cells
            have eq0 : _ = some (Value.int .u8 x.q.d) := H.out.q.1.cell 0
            have eq1 : _ = some (Value.bool x.q.due) := H.out.q.1.cell 1
            first | (refine hK.out _ _ ?_ (fun hHeld => ?_)) | (go_wp2_with fail; refine hK.out _ _ ?_ (fun hHeld => ?_))
            · (try dsimp only); exact ⟨e0, e1, e2, e3, e4, e5, e6, e7, eq0, eq1⟩
            clear hK K
            refine rgt 51 (some 2) (v := ?_) rfl ?_ ?_
            rotate_left 1
            · (intro wS hSw; (try dsimp only at hSw); go_simp; try with_reducible rfl)
            try simp only [Act.put, List.setIfInBounds_toArray, List.set_cons_zero, List.set_cons_succ]
            refine wpAnyH_done (by kernel_rfl) ?_ _
            clear hHeld
            go_wp2_with fail
            go_ret
            exact ⟨w6.heap.size, ⟨gt, gq, gp, gv, gc, gl⟩, rfl, (by rw [HBB.out]; simp [Rr.all]; omega), NP.out, H.out, by rw [HBB.out]; exact BX.out⟩
          exact AllReadyH.nil
        exact AllReadyH.nil
      exact AllReadyH.nil
    exact AllReadyH.nil
  refine rg_step (i := 24) (l := #[true, true, true, true, true, true, true, true, false, true, true, true, true, true, true, true, true, true, true, true, true, true, true, true, true, true, true, true, true, false, true, true, true, true, false, true, true, true, true, false, true, true, true, true, false, true, true, true, true, false, false, false]) rfl (by kernel_rfl) (by kernel_rfl) ?_ ?_
  · intro K hK
    go_simp
    have b1 : Below w0.heap.size w0 (w0.alloc (.cells #[.int .u8 x.q.d, .bool x.q.due] 105)) := (Below.refl _ _).alloc (Nat.le_refl _) _
    have Nq : Hid (RQ (w0.alloc (.cells #[.int .u8 x.q.d, .bool x.q.due] 105)) w0.heap.size x.q) := Lib.hid ⟨Blk.new w0 _ _, H.out.q.2⟩
    have BW' := Lib.hid (BW.out.trans (b1.mono hz))
    replace H := Lib.hid (H.out.keep b1)
    have hz' : B ≤ (w0.alloc (.cells #[.int .u8 x.q.d, .bool x.q.due] 105)).heap.size := Nat.le_trans hz b1.size
    have zq : B ≤ w0.heap.size := hz
    clear BW hz
    have BW := BW'
    have hz := hz'
    clear BW' hz' b1
    obtain ⟨e0, e1, e2, e3, e4, e5, e6, e7⟩ := H.out.cells
    have eq0 : _ = some (Value.int .u8 x.q.d) := H.out.q.1.cell 0
    have eq1 : _ = some (Value.bool x.q.due) := H.out.q.1.cell 1
    first | (refine hK.out _ _ ?_ (fun hHeld => ?_)) | (go_wp2_with fail; refine hK.out _ _ ?_ (fun hHeld => ?_))
    · (try dsimp only); exact ⟨e0, e1, e2, e3, e4, e5, e6, e7, eq0, eq1⟩
    clear hK K
    try simp only [Act.put, List.setIfInBounds_toArray, List.set_cons_zero, List.set_cons_succ]
    generalize hgq : w0.heap.size = gq at *
    generalize World.alloc w0 _ = w1 at *
    clear e0 e1 e2 e3 e4 e5 e6 e7 eq0 eq1
    refine rg_next (i := 8) (l := #[true, true, true, true, true, true, true, true, true, true, true, true, true, true, true, true, true, true, true, true, true, true, true, true, true, true, true, true, true, false, true, true, true, true, false, true, true, true, true, false, true, true, true, true, false, true, true, true, true, false, false, false]) (fuel := 7) (by kernel_rfl) rfl (by kernel_rfl) (by kernel_rfl) (fun K hK => ?_)
    go_simp
    (go_at_call 102)
    refine (rtcopy_any H.out.tm).mono ?_
    rintro e w2 ⟨rfl, y1, b1⟩
    obtain ⟨gt, hg⟩ : ∃ g, w1.heap.size = g := ⟨_, rfl⟩
    have Nt : Hid (RTM w2 gt x.tm) := Lib.hid (hg ▸ y1)
    simp only [hg]
    have zt : B ≤ gt := by omega
    replace Nq := Lib.hid (And.intro (Nq.out.1.below b1 Nq.out.1.lt) Nq.out.2)
    have BW' := Lib.hid (BW.out.trans (b1.mono hz))
    replace H := Lib.hid (H.out.keep b1)
    have hz' : B ≤ w2.heap.size := Nat.le_trans hz b1.size
    clear BW hz
    have BW := BW'
    have hz := hz'
    clear BW' hz' y1 b1 hg
    obtain ⟨e0, e1, e2, e3, e4, e5, e6, e7⟩ := H.out.cells
    have eq0 : _ = some (Value.int .u8 x.q.d) := H.out.q.1.cell 0
    have eq1 : _ = some (Value.bool x.q.due) := H.out.q.1.cell 1
    first | (refine hK.out _ _ ?_ (fun hHeld => ?_)) | (go_wp2_with fail; refine hK.out _ _ ?_ (fun hHeld => ?_))
    · (try dsimp only); exact ⟨e0, e1, e2, e3, e4, e5, e6, e7, eq0, eq1⟩
    clear hK K
    try simp only [Act.put, List.setIfInBounds_toArray, List.set_cons_zero, List.set_cons_succ]
    clear e0 e1 e2 e3 e4 e5 e6 e7 eq0 eq1
    refine rg_next (i := 29) (l := #[true, true, true, true, true, true, true, true, true, true, true, true, true, true, true, true, true, true, true, true, true, true, true, true, true, true, true, true, true, true, true, true, true, true, false, true, true, true, true, false, true, true, true, true, false, true, true, true, true, false, false, false]) (fuel := 6) (by kernel_rfl) rfl (by kernel_rfl) (by kernel_rfl) (fun K hK => ?_)
    go_simp
    (go_at_call 103)
    refine (rpcopy_any H.out.pt).mono ?_
    rintro e w3 ⟨rfl, y1, b1⟩
    obtain ⟨gp, hg⟩ : ∃ g, w2.heap.size = g := ⟨_, rfl⟩
    have Np : Hid (RP w3 gp Z.A3 d.np Z.c3 x.tp x.pt) := Lib.hid (hg ▸ y1)
    simp only [hg]
    have zp : B ≤ gp := by omega
    replace Nq := Lib.hid (And.intro (Nq.out.1.below b1 Nq.out.1.lt) Nq.out.2)
    replace Nt := Lib.hid (And.intro (Nt.out.1.below b1 Nt.out.1.lt) Nt.out.2)
    have BW' := Lib.hid (BW.out.trans (b1.mono hz))
    replace H := Lib.hid (H.out.keep b1)
    have hz' : B ≤ w3.heap.size := Nat.le_trans hz b1.size
    clear BW hz
    have BW := BW'
    have hz := hz'
    clear BW' hz' y1 b1 hg
    obtain ⟨e0, e1, e2, e3, e4, e5, e6, e7⟩ := H.out.cells
    have eq0 : _ = some (Value.int .u8 x.q.d) := H.out.q.1.cell 0
    have eq1 : _ = some (Value.bool x.q.due) := H.out.q.1.cell 1
    first | (refine hK.out _ _ ?_ (fun hHeld => ?_)) | (go_wp2_with fail; refine hK.out _ _ ?_ (fun hHeld => ?_))
    · (try dsimp only); exact ⟨e0, e1, e2, e3, e4, e5, e6, e7, eq0, eq1⟩
    clear hK K
    try simp only [Act.put, List.setIfInBounds_toArray, List.set_cons_zero, List.set_cons_succ]
    clear e0 e1 e2 e3 e4 e5 e6 e7 eq0 eq1
    refine rg_next (i := 34) (l := #[true, true, true, true, true, true, true, true, true, true, true, true, true, true, true, true, true, true, true, true, true, true, true, true, true, true, true, true, true, true, true, true, true, true, true, true, true, true, true, false, true, true, true, true, false, true, true, true, true, false, false, false]) (fuel := 5) (by kernel_rfl) rfl (by kernel_rfl) (by kernel_rfl) (fun K hK => ?_)
    go_simp
    (go_at_call 104)
    refine (rfcopy_any H.out.v).mono ?_
    rintro e w4 ⟨rfl, y1, b1⟩
    obtain ⟨gv, hg⟩ : ∃ g, w3.heap.size = g := ⟨_, rfl⟩
    have Nv : Hid (Blk w4 gv 113 (rfC Z.A1 d.nv Z.c1 x.tv)) := Lib.hid (hg ▸ y1)
    simp only [hg]
    have zv : B ≤ gv := by omega
    replace Nq := Lib.hid (And.intro (Nq.out.1.below b1 Nq.out.1.lt) Nq.out.2)
    replace Nt := Lib.hid (And.intro (Nt.out.1.below b1 Nt.out.1.lt) Nt.out.2)
    replace Np := Lib.hid (And.intro (Np.out.1.below b1 Np.out.1.lt) Np.out.2)
    have BW' := Lib.hid (BW.out.trans (b1.mono hz))
    replace H := Lib.hid (H.out.keep b1)
    have hz' : B ≤ w4.heap.size := Nat.le_trans hz b1.size
    clear BW hz
    have BW := BW'
    have hz := hz'
    clear BW' hz' y1 b1 hg
    obtain ⟨e0, e1, e2, e3, e4, e5, e6, e7⟩ := H.out.cells
    have eq0 : _ = some (Value.int .u8 x.q.d) := H.out.q.1.cell 0
    have eq1 : _ = some (Value.bool x.q.due) := H.out.q.1.cell 1
    first | (refine hK.out _ _ ?_ (fun hHeld => ?_)) | (go_wp2_with fail; refine hK.out _ _ ?_ (fun hHeld => ?_))
    · (try dsimp only); exact ⟨e0, e1, e2, e3, e4, e5, e6, e7, eq0, eq1⟩
    clear hK K
    try simp only [Act.put, List.setIfInBounds_toArray, List.set_cons_zero, List.set_cons_succ]
    clear e0 e1 e2 e3 e4 e5 e6 e7 eq0 eq1
    refine rg_next (i := 39) (l := #[true, true, true, true, true, true, true, true, true, true, true, true, true, true, true, true, true, true, true, true, true, true, true, true, true, true, true, true, true, true, true, true, true, true, true, true, true, true, true, true, true, true, true, true, false, true, true, true, true, false, false, false]) (fuel := 4) (by kernel_rfl) rfl (by kernel_rfl) (by kernel_rfl) (fun K hK => ?_)
    go_simp
    (go_at_call 104)
    refine (rfcopy_any H.out.c).mono ?_
    rintro e w5 ⟨rfl, y1, b1⟩
    obtain ⟨gc, hg⟩ : ∃ g, w4.heap.size = g := ⟨_, rfl⟩
    have Nc : Hid (Blk w5 gc 113 (rfC Z.A2 d.nc Z.c2 x.tc)) := Lib.hid (hg ▸ y1)
    simp only [hg]
    have zc : B ≤ gc := by omega
    have hvc : gv ≠ gc := (by have := Nv.out.lt; omega)
    replace Nq := Lib.hid (And.intro (Nq.out.1.below b1 Nq.out.1.lt) Nq.out.2)
    replace Nt := Lib.hid (And.intro (Nt.out.1.below b1 Nt.out.1.lt) Nt.out.2)
    replace Np := Lib.hid (And.intro (Np.out.1.below b1 Np.out.1.lt) Np.out.2)
    replace Nv := Lib.hid (Nv.out.below b1 Nv.out.lt)
    have BW' := Lib.hid (BW.out.trans (b1.mono hz))
    replace H := Lib.hid (H.out.keep b1)
    have hz' : B ≤ w5.heap.size := Nat.le_trans hz b1.size
    clear BW hz
    have BW := BW'
    have hz := hz'
    clear BW' hz' y1 b1 hg
    obtain ⟨e0, e1, e2, e3, e4, e5, e6, e7⟩ := H.out.cells
    have eq0 : _ = some (Value.int .u8 x.q.d) := H.out.q.1.cell 0
    have eq1 : _ = some (Value.bool x.q.due) := H.out.q.1.cell 1
    first | (refine hK.out _ _ ?_ (fun hHeld => ?_)) | (go_wp2_with fail; refine hK.out _ _ ?_ (fun hHeld => ?_))
    · (try dsimp only); exact ⟨e0, e1, e2, e3, e4, e5, e6, e7, eq0, eq1⟩
    clear hK K
    try simp only [Act.put, List.setIfInBounds_toArray, List.set_cons_zero, List.set_cons_succ]
    clear e0 e1 e2 e3 e4 e5 e6 e7 eq0 eq1
    refine rg_next (i := 44) (l := #[true, true, true, true, true, true, true, true, true, true, true, true, true, true, true, true, true, true, true, true, true, true, true, true, true, true, true, true, true, true, true, true, true, true, true, true, true, true, true, true, true, true, true, true, true, true, true, true, true, false, false, false]) (fuel := 3) (by kernel_rfl) rfl (by kernel_rfl) (by kernel_rfl) (fun K hK => ?_)
    go_simp
    (go_at_call 105)
    refine (rlcopy_any H.out.l).mono ?_
    rintro e w6 ⟨rfl, y1, b1⟩
    obtain ⟨gl, hg⟩ : ∃ g, w5.heap.size = g := ⟨_, rfl⟩
    have Nl : Hid (Blk w6 gl 115 (rlC Z.A d.n Z.c x.s x.ro)) := Lib.hid (hg ▸ y1)
    simp only [hg]
    have zl : B ≤ gl := by omega
    replace Nq := Lib.hid (And.intro (Nq.out.1.below b1 Nq.out.1.lt) Nq.out.2)
    replace Nt := Lib.hid (And.intro (Nt.out.1.below b1 Nt.out.1.lt) Nt.out.2)
    replace Np := Lib.hid (And.intro (Np.out.1.below b1 Np.out.1.lt) Np.out.2)
    replace Nv := Lib.hid (Nv.out.below b1 Nv.out.lt)
    replace Nc := Lib.hid (Nc.out.below b1 Nc.out.lt)
    have BW' := Lib.hid (BW.out.trans (b1.mono hz))
    replace H := Lib.hid (H.out.keep b1)
    have hz' : B ≤ w6.heap.size := Nat.le_trans hz b1.size
    clear BW hz
    have BW := BW'
    have hz := hz'
    clear BW' hz' y1 b1 hg
    obtain ⟨e0, e1, e2, e3, e4, e5, e6, e7⟩ := H.out.cells
    have eq0 : _ = some (Value.int .u8 x.q.d) := H.out.q.1.cell 0
    have eq1 : _ = some (Value.bool x.q.due) := H.out.q.1.cell 1
    first | (refine hK.out _ _ ?_ (fun hHeld => ?_)) | (go_wp2_with fail; refine hK.out _ _ ?_ (fun hHeld => ?_))
    · (try dsimp only); exact ⟨e0, e1, e2, e3, e4, e5, e6, e7, eq0, eq1⟩
    clear hK K
    refine rgt 49 (some 52) (v := ?_) rfl ?_ ?_
    rotate_left 1
    · (intro wS hSw; (try dsimp only at hSw); go_simp; try with_reducible rfl)
    try simp only [Act.put, List.setIfInBounds_toArray, List.set_cons_zero, List.set_cons_succ]
    refine rg_next (i := 50) (l := #[true, true, true, true, true, true, true, true, true, true, true, true, true, true, true, true, true, true, true, true, true, true, true, true, true, true, true, true, true, true, true, true, true, true, true, true, true, true, true, true, true, true, true, true, true, true, true, true, true, true, true, false]) (fuel := 1) (by kernel_rfl) rfl (by kernel_rfl) (by kernel_rfl) (fun K hK => ?_)
    go_simp
    have b1 : Below w6.heap.size w6 (w6.alloc (.cells #[.int .u8 x.buf, .pointer (some ⟨gt, 0, none⟩), .pointer (some ⟨gq, 0, none⟩), .pointer (some ⟨gp, 0, none⟩), .pointer (some ⟨gv, 0, none⟩), .pointer (some ⟨gc, 0, none⟩), .pointer (some ⟨gl, 0, none⟩), .int .i64 x.now] 111)) := (Below.refl _ _).alloc (Nat.le_refl _) _
    have NP : Hid (RHp (w6.alloc (.cells #[.int .u8 x.buf, .pointer (some ⟨gt, 0, none⟩), .pointer (some ⟨gq, 0, none⟩), .pointer (some ⟨gp, 0, none⟩), .pointer (some ⟨gv, 0, none⟩), .pointer (some ⟨gc, 0, none⟩), .pointer (some ⟨gl, 0, none⟩), .int .i64 x.now] 111)) w6.heap.size d ⟨gt, gq, gp, gv, gc, gl⟩ Z x) := Lib.hid ⟨Blk.new w6 _ _, And.intro (Nt.out.1.below b1 Nt.out.1.lt) Nt.out.2, And.intro (Nq.out.1.below b1 Nq.out.1.lt) Nq.out.2, And.intro (Np.out.1.below b1 Np.out.1.lt) Np.out.2, Nv.out.below b1 Nv.out.lt, Nc.out.below b1 Nc.out.lt, Nl.out.below b1 Nl.out.lt, hvc⟩
    have BX := Lib.hid (BW.out.trans (b1.mono hz))
    replace H := Lib.hid (H.out.keep b1)
    obtain ⟨e0, e1, e2, e3, e4, e5, e6, e7⟩ := H.out.cells
    have eq0 : _ = some (Value.int .u8 x.q.d) := H.out.q.1.cell 0
    have eq1 : _ = some (Value.bool x.q.due) := H.out.q.1.cell 1
    first | (refine hK.out _ _ ?_ (fun hHeld => ?_)) | (go_wp2_with fail; refine hK.out _ _ ?_ (fun hHeld => ?_))
    · (try dsimp only); exact ⟨e0, e1, e2, e3, e4, e5, e6, e7, eq0, eq1⟩
    clear hK K
    refine rgt 51 (some 2) (v := ?_) rfl ?_ ?_
    rotate_left 1
    · (intro wS hSw; (try dsimp only at hSw); go_simp; try with_reducible rfl)
    try simp only [Act.put, List.setIfInBounds_toArray, List.set_cons_zero, List.set_cons_succ]
    refine wpAnyH_done (by kernel_rfl) ?_ _
    clear hHeld
    go_wp2_with fail
    go_ret
    exact ⟨w6.heap.size, ⟨gt, gq, gp, gv, gc, gl⟩, rfl, (by rw [HBB.out]; simp [Rr.all]; omega), NP.out, H.out, by rw [HBB.out]; exact BX.out⟩
  exact AllReadyH.nil
end
end Go.Proofs.YtleofglnlfpoeaaGreat
namespace Go.Proofs.YtleofglnlfpoeaaGreat
open Go.RowKit
set_option linter.unusedVariables false
set_option linter.unusedSimpArgs false
set_option maxRecDepth 100000
/-- What is behind an empty row of the call's own: a row that is there, nil or not. -/
theorem app_empty {P : Program} {t e ty : TypeId} {z : Value} {m bytes : Nat} {u : World} {a : Nat} {A : Option Addr} {n c B : Nat} {f : Nat → Nat → Value} (ht : P.underlying t = some (.slice e)) (hinfo : (P.info? e).map (fun i => (i.zero, i.size, i.bytes)) = some (some z, m, bytes)) (hz : z.cells.size = m) (hm : 0 < m)
    (h1 : ∀ i j, i < n → j < m → (f i j).oneCell' = true) (hb : n * bytes ≤ 140737488355328) (hn : n ≤ maxLen) (hA : Blk u a e #[]) (hB : B ≤ a) (R : FRow u m A n f) (hnil : A = none → n = 0 ∧ c = 0) :
    ∃ v u', (Builtin.append_ #[t, t] ty #[.slice (some ⟨a, 0, none⟩) 0 0, .slice A n c]).run P u = .ok v u' ∧ u'.ownsRow B e m v n (cellsOf_ m f n) ∧ Kp [a] u u' := by
  obtain ⟨i, hi, hzz⟩ := Option.map_eq_some_iff.1 hinfo
  simp only [Prod.mk.injEq] at hzz
  obtain ⟨hz', hs, hby⟩ := hzz
  have hown0 : u.ownsRow B e m (.slice (some ⟨a, 0, none⟩) 0 0) 0 [] :=
    ⟨by simp, Or.inr ⟨a, 0, #[], rfl, hB, hA, Nat.le_refl _, by unfold maxLen; omega, by simp, by simp⟩⟩
  cases A with
  | none =>
    obtain ⟨rfl, rfl⟩ := hnil rfl
    refine ⟨.slice (some ⟨a, 0, none⟩) 0 0, u, ?_, by simpa [cellsOf_] using hown0, Kp.refl _ _⟩
    simp [Builtin.append_, run_underlying ht, sizeOf, typeInfo, hi, Builtin.lenOf, Builtin.firstCells, storeCells]
  | some ad =>
    obtain ⟨v', w', q1, q2, q3, _, _⟩ := run_append_own_at (P := P) u B t ty e i z m bytes ht hi hz' hs hby hz hm _ 0 [] hown0 ad n c (cellsOf_ m f n) (cellsOf_len m f n)
      (fun q x hu => by
        have hq : q < n * m := by have := (List.getElem?_eq_some_iff.1 hu).1; rwa [cellsOf_len] at this
        rw [cellsOf_at m f n q hq] at hu
        injection hu with hu
        subst hu
        have hin : q / m < n := by rw [Nat.div_lt_iff_lt_mul hm]; exact hq
        obtain ⟨ae, ea, _, hc⟩ := R (q / m) hin
        injection ea with ea
        subst ea
        have := hc (q % m) (Nat.mod_lt _ hm)
        rwa [show q / m * m + q % m = q from Nat.div_add_mod' q m] at this)
      (cellsOf_one h1) (by omega) (by rw [Nat.zero_add]; exact hb) (Nat.le_trans hB (Nat.le_of_lt hA.lt))
    rw [Nat.zero_add, List.nil_append] at q2
    exact ⟨v', w', q1, q2, Kp.of_gb q3⟩
theorem RHp.noacc {w : World} {r : Nat} {d : Hd} {J : Rr} {Z : Rz} {x : Hp} (h : RHp w r d J Z x) {u : Nat} {cs : Array Value} (hb : Blk w u 62 cs) : u ∉ J.all r := by
  intro hy
  simp only [Rr.all, List.mem_cons, List.not_mem_nil, or_false] at hy
  rcases hy with rfl | rfl | rfl | rfl | rfl | rfl | rfl
  · exact hb.ne_ h.pg (by decide) rfl
  · exact hb.ne_ h.tm.1 (by decide) rfl
  · exact hb.ne_ h.q.1 (by decide) rfl
  · exact hb.ne_ h.pt.1 (by decide) rfl
  · exact hb.ne_ h.v (by decide) rfl
  · exact hb.ne_ h.c (by decide) rfl
  · exact hb.ne_ h.l (by decide) rfl
def bF (f : Nat → Int) (i : Nat) (_ : Nat) : Value := .int .u8 (f i)
theorem bF_cells {C : List Value} {f : Nat → Int} (w : World) (m : Nat) (hb : Blk w m 5 C.toArray) (h : BAt C f) : FRow w 1 (some ⟨m, 0, none⟩) 8192 (bF f) := fun i hi =>
  ⟨_, rfl, hb.lt, fun j hj => by
    obtain rfl : j = 0 := by omega
    rw [Nat.mul_one, Nat.add_zero, add_zero_block, hb.cell]
    simpa [bF] using h i hi⟩
/-- A row of bytes of its own, as the reference's work memory. -/
theorem own_bat {w : World} {B : Nat} {v : Value} {f : Nat → Int} (h : w.ownsRow B 5 1 v 8192 (cellsOf_ 1 (bF f) 8192)) : ∃ m mc, v = .slice (some ⟨m, 0, none⟩) 8192 mc ∧ B ≤ m ∧ 8192 ≤ mc ∧ mc ≤ maxLen ∧ ∃ C : List Value, Blk w m 5 C.toArray ∧ BAt C f := by
  rcases h.2 with ⟨_, h0⟩ | ⟨g, cap, cur, rfl, hg, hh, hnc, hcm, hcs, hcur⟩
  · omega
  · refine ⟨g, cap, rfl, hg, hnc, hcm, cur.toList, hh, fun i hi => ?_⟩
    have h2 : (cur.toList.take (8192 * 1))[i]? = some (.int .u8 (f i)) := by
      rw [hcur, cellsOf_at 1 (bF f) 8192 i (by omega)]
      simp [bF]
    rw [List.getElem?_take] at h2
    rw [if_pos (by omega)] at h2
    exact h2
def RbCopyR (W : World) (g : Nat) (d : Hd) (Q : Rbp) (s : Bs) (nx : Bool) (w : World) (e : Ending) (w' : World) : Prop :=
  ∃ g2 Q2, e = .returned (.pointer (some ⟨g2, 0, none⟩)) ∧ RBU W w' g2 d Q2 s nx ∧ RBU W w' g d Q s nx ∧ Below w.heap.size w w' ∧ (∀ y ∈ rbL g2 Q2, w.heap.size ≤ y) ∧ Q2.Z = Q.Z
/-- What stands between the operations of the region: the bus as it was; what has been made yet. -/
structure CX (W w : World) (g : Nat) (d : Hd) (Q : Rbp) (s : Bs) (nx : Bool) (o7 o31 om : Option Nat) (op : Option (Nat × Rr)) (oc : Option Nat) (u : World) : Prop where
  hr : RBU W u g d Q s nx
  bb : Below w.heap.size w u
  lt : ∀ y ∈ rbL g Q, y < w.heap.size
  wl : W.heap.size ≤ w.heap.size
  m7 : ∀ a, o7 = some a → Blk u a 5 #[] ∧ w.heap.size ≤ a
  m31 : ∀ a, o31 = some a → Blk u a 62 #[] ∧ w.heap.size ≤ a
  mm : ∀ a, om = some a → (∃ C : List Value, Blk u a 5 C.toArray ∧ BAt C s.f) ∧ w.heap.size ≤ a
  mp : ∀ x, op = some x → RHp u x.1 d x.2 Q.Z s.x ∧ ∀ y ∈ x.2.all x.1, w.heap.size ≤ y
  mc : ∀ a, oc = some a → Blk u a 142 (rk s.now s.cyc s.fast s.asked nx) ∧ w.heap.size ≤ a
section
variable {W w u u' : World} {g : Nat} {d : Hd} {Q : Rbp} {s : Bs} {nx : Bool} {o7 o31 om oc : Option Nat} {op : Option (Nat × Rr)}
theorem CX.start (h : RBU W w g d Q s nx) : CX W w g d Q s nx none none none none none w.drew :=
  ⟨h.kp0 (Kp.refl _ _).drew, (Below.refl w.heap.size w).drew, h.lt, h.old.size, by simp, by simp, by simp, by simp, by simp⟩
theorem CX.kp0 (h : CX W w g d Q s nx o7 o31 om op oc u) (k : Kp [] u u') : CX W w g d Q s nx o7 o31 om op oc u' :=
  ⟨h.hr.kp0 k, k.onto h.bb h.bb.size (by simp), h.lt, h.wl, fun a e => ⟨(h.m7 a e).1.kp k (by simp), (h.m7 a e).2⟩, fun a e => ⟨(h.m31 a e).1.kp k (by simp), (h.m31 a e).2⟩,
    fun a e => ⟨by obtain ⟨C, hC, hb⟩ := (h.mm a e).1; exact ⟨C, hC.kp k (by simp), hb⟩, (h.mm a e).2⟩, fun x e => ⟨(h.mp x e).1.kp0 k, (h.mp x e).2⟩, fun a e => ⟨(h.mc a e).1.kp k (by simp), (h.mc a e).2⟩⟩
theorem CX.below (h : CX W w g d Q s nx o7 o31 om op oc u) (b : Below u.heap.size u u') : CX W w g d Q s nx o7 o31 om op oc u' := h.kp0 (Kp.of_below b)
theorem CX.s4 (h : CX W w g d Q s nx none o31 om op oc u) : CX W w g d Q s nx (some u.heap.size) o31 om op oc (u.alloc (.cells #[] 5)) := by
  have k := h.kp0 ((Kp.refl _ _).alloc (.cells #[] 5))
  exact ⟨k.hr, k.bb, k.lt, k.wl, fun a e => by injection e with e; subst e; exact ⟨Blk.new u _ _, h.bb.size⟩, k.m31, k.mm, k.mp, k.mc⟩
theorem CX.s28 (h : CX W w g d Q s nx o7 none om op oc u) : CX W w g d Q s nx o7 (some u.heap.size) om op oc (u.alloc (.cells #[] 62)) := by
  have k := h.kp0 ((Kp.refl _ _).alloc (.cells #[] 62))
  exact ⟨k.hr, k.bb, k.lt, k.wl, k.m7, fun a e => by injection e with e; subst e; exact ⟨Blk.new u _ _, h.bb.size⟩, k.mm, k.mp, k.mc⟩
theorem CX.s14 {r2 : Nat} {J2 : Rr} (h : CX W w g d Q s nx o7 o31 om none oc u) (h1 : ∀ y ∈ J2.all r2, u.heap.size ≤ y) (h2 : RHp u' r2 d J2 Q.Z s.x) (b : Below u.heap.size u u') : CX W w g d Q s nx o7 o31 om (some (r2, J2)) oc u' := by
  have k := h.below b
  exact ⟨k.hr, k.bb, k.lt, k.wl, k.m7, k.m31, k.mm, fun x e => by injection e with e; subst e; exact ⟨h2, fun y hy => Nat.le_trans h.bb.size (h1 y hy)⟩, k.mc⟩
theorem CX.s19 (h : CX W w g d Q s nx o7 o31 om op none u) (h1 : Blk u' u.heap.size 142 (rk s.now s.cyc s.fast s.asked nx)) (b : Below u.heap.size u u') : CX W w g d Q s nx o7 o31 om op (some u.heap.size) u' := by
  have k := h.below b
  exact ⟨k.hr, k.bb, k.lt, k.wl, k.m7, k.m31, k.mm, k.mp, fun a e => by injection e with e; subst e; exact ⟨h1, h.bb.size⟩⟩
theorem CX.off {a : Nat} (h : CX W w g d Q s nx o7 o31 om op oc u) (ha : w.heap.size ≤ a) : ∀ y ∈ rbL g Q, y ∉ [a] := fun y hy e => by
  have := h.lt y hy
  simp only [List.mem_singleton] at e
  omega
theorem CX.s9 {a7 : Nat} (h : CX W w g d Q s nx (some a7) o31 none none none u) (hf : ∀ i, i < 8192 → 0 ≤ s.f i ∧ s.f i ≤ 255) {ty : TypeId} {mc0 : Nat} :
    ∃ m mc u', (Builtin.append_ #[22, 22] ty #[.slice (some ⟨a7, 0, none⟩) 0 0, .slice (some ⟨Q.m, 0, none⟩) 8192 mc0]).run Tryz.prog u = .ok (.slice (some ⟨m, 0, none⟩) 8192 mc) u' ∧ 8192 ≤ mc ∧ mc ≤ maxLen ∧ CX W w g d Q s nx none o31 (some m) none none u' := by
  obtain ⟨C, hC, hb⟩ := h.hr.ram
  obtain ⟨h7, ha⟩ := h.m7 a7 rfl
  obtain ⟨v, u', q1, q2, k⟩ := app_empty (P := Tryz.prog) (t := 22) (ty := ty) (c := mc0) (B := w.heap.size) Tryz.underlying22 (show (Tryz.prog.info? 5).map (fun i => (i.zero, i.size, i.bytes)) = some (some (.int .u8 0), 1, 1) by kernel_rfl) rfl (by omega) (fun i j _ _ => rfl) (by omega) (by unfold maxLen; omega) h7 ha (bF_cells u Q.m hC hb) (by simp)
  obtain ⟨m, mc, rfl, hm, c1, c2, C2, hC2, hb2⟩ := own_bat q2
  refine ⟨m, mc, u', q1, c1, c2, ⟨h.hr.kp k (h.off ha) (fun y hy => ?_), k.onto h.bb h.bb.size (fun y hy => ?_), h.lt, h.wl, by simp, fun a e => ⟨(h.m31 a e).1.kp k ?_, (h.m31 a e).2⟩, fun a e => ?_, by simp, by simp⟩⟩
  · obtain rfl : y = a7 := by simpa using hy
    exact Nat.le_trans h.wl ha
  · obtain rfl : y = a7 := by simpa using hy
    exact ha
  · simp only [List.mem_singleton]
    exact (h.m31 a e).1.ne_ h7 (by decide)
  · injection e with e
    subst e
    exact ⟨⟨C2, hC2, hb2⟩, hm⟩
theorem CX.s33 {a31 : Nat} (h : CX W w g d Q s nx o7 (some a31) om op oc u) (hn : s.tl.length ≤ 1000000) {ty : TypeId} :
    ∃ vA vc u', (Builtin.append_ #[50, 50] ty #[.slice (some ⟨a31, 0, none⟩) 0 0, Q.tr]).run Tryz.prog u = .ok (.slice vA s.tl.length vc) u' ∧ u'.ownsRow w.heap.size 62 5 (.slice vA s.tl.length vc) s.tl.length (accL s.tl) ∧ CX W w g d Q s nx none none om op oc u' := by
  have ho := h.hr.tr
  rw [accL_cells] at ho
  obtain ⟨tA, tc, htv, t1, t2, t3, t4, t5⟩ := own_frow (by omega) ho
  obtain ⟨h31, ha⟩ := h.m31 a31 rfl
  obtain ⟨v, u', q1, q2, k⟩ := app_empty (P := Tryz.prog) (t := 50) (ty := ty) (c := tc) (B := w.heap.size) Tryz.underlying50 acc_info rfl (by omega) (fun i j _ hj => accF_one _ i j hj) (by omega) (by unfold maxLen; omega) h31 ha t3 t5
  rw [← htv] at q1
  obtain ⟨vA, vc, rfl, _⟩ := own_frow (by omega) q2
  rw [← accL_cells] at q2
  have hs : ∀ y ∈ [a31], w.heap.size ≤ y := fun y hy => by
    obtain rfl : y = a31 := by simpa using hy
    exact ha
  refine ⟨vA, vc, u', q1, q2, ⟨h.hr.kp k (h.off ha) (fun y hy => Nat.le_trans h.wl (hs y hy)), k.onto h.bb h.bb.size hs, h.lt, h.wl, by simp, by simp, fun a e => ?_, fun x e => ?_, fun a e => ?_⟩⟩
  · obtain ⟨⟨C, hC, hb⟩, hh⟩ := h.mm a e
    exact ⟨⟨C, hC.kp k (by simp only [List.mem_singleton]; exact hC.ne_ h31 (by decide)), hb⟩, hh⟩
  · obtain ⟨r1, r2⟩ := h.mp x e
    exact ⟨rhp_kpL r1 k (fun y hy e2 => by (have e3 : y = a31 := by simpa using e2); subst e3; exact r1.noacc h31 hy), r2⟩
  · obtain ⟨r1, r2⟩ := h.mc a e
    exact ⟨r1.kp k (by simp only [List.mem_singleton]; exact r1.ne_ h31 (by decide)), r2⟩
theorem CX.done {m mc c2 r2 : Nat} {J2 : Rr} {v : Value} (h : CX W w g d Q s nx none none (some m) (some (r2, J2)) (some c2) u) (hv : u.ownsRow w.heap.size 62 5 v s.tl.length (accL s.tl)) (c1 : 8192 ≤ mc) (c3 : mc ≤ maxLen) :
    RbCopyR W g d Q s nx w (.returned (.pointer (some ⟨u.heap.size, 0, none⟩))) (u.alloc (.cells #[.slice Q.A s.rn Q.ca, .slice (some ⟨m, 0, none⟩) 8192 mc, .pointer (some ⟨r2, 0, none⟩), .pointer (some ⟨c2, 0, none⟩), .int .i64 s.left, .bool s.over, v] 54)) := by
  obtain ⟨⟨C, hC, hb⟩, hm⟩ := h.mm m rfl
  obtain ⟨hp, hpn⟩ := h.mp (r2, J2) rfl
  obtain ⟨hc, hcn⟩ := h.mc c2 rfl
  have ka := fun o => (Kp.refl [] u).alloc o
  have hWw : W.heap.size ≤ w.heap.size := h.wl
  have NEW : ∀ y ∈ rbL u.heap.size ({ Q with m := m, mc := mc, p := r2, J := J2, c := c2, tr := v } : Rbp), w.heap.size ≤ y := by
    intro y hy
    rcases mem_rbL.1 hy with e | e | e | e | e
    · rw [e]; exact h.bb.size
    · rw [e]; exact hm
    · rw [e]; exact hcn
    · exact hpn y e
    · rcases hv.2 with ⟨rfl, _⟩ | ⟨b, cap, cur, rfl, hg, _⟩
      · cases e
      · cases e; exact hg
  refine ⟨u.heap.size, { Q with m := m, mc := mc, p := r2, J := J2, c := c2, tr := v }, rfl, ⟨Blk.new_ rfl, ⟨C, hC.alloc _, hb⟩, hc.alloc _, hp.kp0 (ka _), own_base (own_kpL hv (ka _) (by simp)) (Nat.zero_le _), (h.kp0 (ka _)).hr.old, fun y hy => Nat.le_trans hWw (NEW y hy), h.hr.rom, h.hr.nx, ⟨c1, c3, h.hr.cap.2.2⟩⟩, (h.kp0 (ka _)).hr, (h.kp0 (ka _)).bb, NEW, rfl⟩
end
end Go.Proofs.YtleofglnlfpoeaaGreat
