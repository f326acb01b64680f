/-
  Texts of these proofs, one behind the other: Scr37, Scr38, Scr39.
-/
import Derived.Test.YtnhnphifhkkboaaDoorKSW47
import Derived.Lib.AppendZeros
import Derived.Maps.AppendAt
namespace Go.Proofs.YtnhnphifhkkboaaDoor
open Go.RowKit Go.Shelf
set_option linter.unusedVariables false
set_option linter.unusedSimpArgs false
set_option maxRecDepth 100000
set_option maxHeartbeats 8000000
theorem own_sl {W : World} {base size n : Nat} {e : TypeId} {v : Value} {xs : List Value} (h : W.ownsRow base e size v n xs) : ∃ A c, v = .slice A n c := by
  rcases h.2 with ⟨hv, h0⟩ | ⟨g, cap, cur, hv, _⟩
  · exact ⟨none, 0, by rw [hv, h0]⟩
  · exact ⟨_, cap, hv⟩
def strV (l : List ByteArray) : List Value := l.map Value.string
theorem strV_len (l : List ByteArray) : (strV l).length = l.length := by simp [strV]
theorem strV_app (a b : List ByteArray) : strV (a ++ b) = strV a ++ strV b := by simp [strV]
theorem strV_one (l : List ByteArray) : ∀ u ∈ strV l, u.oneCell' = true := fun u hu => by
  obtain ⟨x, _, rfl⟩ := List.mem_map.1 hu
  rfl
/-- Lines behind a row of the call's own. -/
theorem more_str {ty : TypeId} {w : World} {base base2 n : Nat} {v u : Value} {xs : List Value} (hown : w.ownsRow base 9 1 v n xs) (l : List ByteArray) (hp : w.ownsRow base2 9 1 u l.length (strV l)) (hn : n + l.length ≤ 400000000000) (hb : base ≤ w.heap.size) :
    ∃ v' w', (Builtin.append_ #[45, 45] ty #[v, u]).run Tryd.prog w = .ok v' w' ∧ w'.ownsRow base 9 1 v' (n + l.length) (xs ++ strV l) ∧ w.grownBy w' v.ownBlock := by
  obtain ⟨i, hi, hzz⟩ := Option.map_eq_some_iff.1 scstr_inf
  simp only [Prod.mk.injEq] at hzz
  obtain ⟨hz, hs, hby⟩ := hzz
  have ht : Tryd.prog.underlying 45 = some (.slice 9) := Tryd.underlying45
  have hp2 := hp
  rcases hp.2 with ⟨rfl, h0⟩ | ⟨g, cap, cur, rfl, _⟩
  · have : l = [] := List.length_eq_zero_iff.1 h0
    subst this
    refine ⟨v, w, ?_, by simpa [strV] using hown, World.grownBy.refl w _⟩
    rcases hown.2 with ⟨rfl, rfl⟩ | ⟨g, cap, cur, rfl, _, _, hnc, _⟩
    · simp [Builtin.append_, run_underlying ht, sizeOf, typeInfo, hi, Builtin.lenOf, Builtin.firstCells]
    · simp [Builtin.append_, run_underlying ht, sizeOf, typeInfo, hi, Builtin.lenOf, Builtin.firstCells, hnc, storeCells]
  · obtain ⟨v', w', h1, h2, h3, _, _⟩ := run_append_own_at (P := Tryd.prog) w base 45 ty 9 i _ 1 16 ht hi hz hs hby rfl (by omega) v n xs hown ⟨g, 0, none⟩ l.length cap (strV l) (by rw [strV_len]; omega) (hp2.cells rfl) (strV_one l) (by simp only [maxLen]; omega) (by omega) hb
    exact ⟨v', w', h1, h2, h3⟩
theorem sgrow_any (m : Nat) (h0 : 0 < m) (h1 : m ≤ 400000000000) (w : World) :
    Calls Tryd.prog 105 #[.slice none 0 0, .int .i64 m] w fun e w' => ∃ v, e = .returned v ∧ w'.ownsRow w.heap.size 9 1 v 0 [] ∧ Below w.heap.size w w' := by
  obtain ⟨i, hi, hzz⟩ := Option.map_eq_some_iff.1 scstr_inf
  simp only [Prod.mk.injEq] at hzz
  obtain ⟨hz, hs, hb⟩ := hzz
  have hrun := Lib.run_append_nil_zeros (P := Tryd.prog) w 45 3 45 9 i _ .i64 .i64 Tryd.underlying45 Tryd.underlying3 hi hz m h0 (by omega) (by omega) (by rw [hb]; omega)
  have hge := grownCap_ge w m 0 9
  have hle := grownCap_le_maxLen w m 0 9 (by simp only [maxLen]; omega)
  obtain ⟨C, hC⟩ : ∃ C, grownCap w m 0 9 = C := ⟨_, rfl⟩
  rw [hC] at hrun hge hle
  obtain ⟨cs, hcs⟩ : ∃ cs, Builtin.zeroCells (Value.string ⟨#[]⟩).cells m ++ Builtin.zeroCells (Value.string ⟨#[]⟩).cells (C - m) = cs := ⟨_, rfl⟩
  have hsz : cs.size = C * 1 := by
    rw [← hcs, Array.size_append, size_zeroCells, size_zeroCells, show (Value.string ⟨#[]⟩).cells.size = 1 from rfl]; omega
  rw [hcs] at hrun
  clear hcs hC hi hz hs hb
  have HB := Lib.hid (show Below w.heap.size w (w.drew.alloc (.cells cs 9)) from ((Below.refl _ w).drew).alloc (Nat.le_refl _) _)
  have HH : Hid ((w.drew.alloc (.cells cs 9)).heap[w.heap.size]? = some (.cells cs 9 (0, 0))) := Lib.hid (heap_alloc_new w.drew _)
  obtain ⟨G, hG⟩ : ∃ G, w.heap.size = G := ⟨_, rfl⟩
  obtain ⟨w1, hw1⟩ : ∃ w1, w.drew.alloc (.cells cs 9) = w1 := ⟨_, rfl⟩
  rw [hw1] at hrun HB HH
  rw [hG] at hrun HB HH ⊢
  have HO := Lib.hid (And.intro hsz (And.intro hge hle))
  clear hw1 hG hsz hge hle
  go_enter Tryd.func105, Tryd.ntmps105
  go_wp2_with (at_builtin; refine Lib.wpList_append_run _ rfl (.tmp 20) (.tmp 21) _ _ rfl _ _ rfl rfl _ _ hrun ?_)
  go_ret
  exact ⟨_, rfl, ⟨rfl, .inr ⟨G, C, cs, rfl, Nat.le_refl _, HH.out, Nat.zero_le _, HO.out.2.2, HO.out.1, by simp⟩⟩, HB.out⟩
def flS (ps : List (Value × List ByteArray)) : List ByteArray := ps.flatMap (·.2)
theorem flS_take (ps : List (Value × List ByteArray)) (j : Nat) (p : Value × List ByteArray) (h : ps[j]? = some p) : flS (ps.take (j + 1)) = flS (ps.take j) ++ p.2 := by
  unfold flS
  rw [List.take_add_one, h]; simp
theorem flS_le (ps : List (Value × List ByteArray)) (j : Nat) : (flS (ps.take j)).length ≤ (flS ps).length := by
  have : flS ps = flS (ps.take j) ++ flS (ps.drop j) := by unfold flS; rw [← List.flatMap_append, List.take_append_drop]
  rw [this, List.length_append]; omega
theorem sconcat_any (g n c B : Nat) (ps : List (Value × List ByteArray)) (hn : ps.length = n) (h0 : 0 < n) (hn1 : n ≤ 1000) (w : World) (hg : Blk w g 45 (ps.map (·.1)).toArray)
    (hps : ∀ p ∈ ps, w.ownsRow B 9 1 p.1 p.2.length (strV p.2)) (h0t : 0 < (flS ps).length) (ht : (flS ps).length ≤ 400000000000) :
    Calls Tryd.prog 55 #[.slice (some ⟨g, 0, none⟩) n c] w fun e w' => ∃ v, e = .returned v ∧ w'.ownsRow w.heap.size 9 1 v (flS ps).length (strV (flS ps)) ∧ Below w.heap.size w w' := by
  have HPS := Lib.hid hps
  have KG := Lib.hid hg
  have HN := Lib.hid hn
  have HT0 := h0t
  clear hps hg hn h0t
  have HLE := Lib.hid (flS_le ps)
  have HTK := Lib.hid (flS_take ps)
  obtain ⟨T, hT⟩ : ∃ T, (flS ps).length = T := ⟨_, rfl⟩
  rw [hT] at ht HT0 ⊢
  have HTT := Lib.hid hT
  clear hT
  go_enter Tryd.func55, Tryd.ntmps55
  go_wp2_with fail
  go_loop [3, 11] (fun s i => ∃ j : Nat, j ≤ n ∧ i = .int .i64 j ∧ s = .int .i64 (((flS (ps.take j)).length : Nat) : Int)) (fun _ i => n - (intOf i).toNat)
  case atStart => exact ⟨0, by omega, rfl, rfl⟩
  case round =>
    obtain ⟨j, hj, rfl, rfl⟩ := hrel
    by_cases hlt : j < n
    · obtain ⟨p, hp⟩ : ∃ p, ps[j]? = some p := ⟨ps[j]'(by rw [HN.out]; exact hlt), List.getElem?_eq_getElem _⟩
      have hm := HPS.out p (List.mem_of_getElem? hp)
      obtain ⟨b, cp, hv⟩ := own_sl hm
      have hc : w.cell? ⟨g, j, none⟩ = some (.slice b p.2.length cp) := by rw [KG.out.cell j, ← hv]; simp [hp]
      have htk := HTK.out j p hp
      have hl1 := HLE.out (j + 1)
      rw [htk, List.length_append, HTT.out] at hl1
      obtain ⟨S, hS⟩ : ∃ S, (flS (ps.take j)).length = S := ⟨_, rfl⟩
      obtain ⟨k, hk⟩ : ∃ k, p.2.length = k := ⟨_, rfl⟩
      rw [hS, hk] at hl1
      rw [hk] at hc
      rw [hS]
      have HS' : Hid ((((flS (ps.take (j + 1))).length : Nat) : Int) = (S : Int) + k) := Lib.hid (by rw [htk, List.length_append, hS, hk]; simp)
      clear htk hS hk hm hv
      go_wp2_with fail
      go_round
      case rel => exact ⟨j + 1, by omega, by go_num, by rw [HS'.out]⟩
      case measure => simp [intOf]; omega
    · obtain rfl : j = n := by omega
      have hfl : (flS (ps.take j)).length = T := by rw [List.take_of_length_le (by rw [HN.out]; exact Nat.le_refl _)]; exact HTT.out
      rw [hfl]
      clear hfl hlt hj
      go_wp2_with (go_at_call 105; refine (sgrow_any T HT0 ht _).mono ?_; rintro e w1 ⟨v1, rfl, own1, hb1⟩)
      have OWN1 := Lib.hid own1
      have HB1 := Lib.hid hb1
      clear own1 hb1
      go_wp2_with fail
      go_loopw [6, 27] (fun v i wr => ∃ q : Nat, q ≤ j ∧ i = .int .i64 q ∧ wr.ownsRow w.heap.size 9 1 v (flS (ps.take q)).length (strV (flS (ps.take q))) ∧ Below w.heap.size w wr) (fun _ i _ => j - (intOf i).toNat)
      case atStart => exact ⟨0, by omega, rfl, OWN1.out, HB1.out⟩
      case round =>
        obtain ⟨q, hq, rfl, own, hB⟩ := hrel
        have OWN := Lib.hid own
        have HB := Lib.hid hB
        clear own hB
        by_cases hlt : q < j
        · obtain ⟨p, hp⟩ : ∃ p, ps[q]? = some p := ⟨ps[q]'(by rw [HN.out]; exact hlt), List.getElem?_eq_getElem _⟩
          have hm := HPS.out p (List.mem_of_getElem? hp)
          obtain ⟨b, cp, hv⟩ := own_sl hm
          have hc : wr.cell? ⟨g, q, none⟩ = some (.slice b p.2.length cp) := by
            rw [HB.out.cell (p := ⟨g, q, none⟩) KG.out.lt, KG.out.cell q, ← hv]; simp [hp]
          have htk := HTK.out q p hp
          have hl1 := HLE.out (q + 1)
          rw [htk, List.length_append, HTT.out] at hl1
          have hpo := own_below hm HB.out
          rw [hv] at hpo
          obtain ⟨v', w', hrun, own', gb⟩ := more_str (ty := 45) OWN.out p.2 hpo (by omega) HB.out.size
          have HW : Hid (w'.ownsRow w.heap.size 9 1 v' (flS (ps.take (q + 1))).length (strV (flS (ps.take (q + 1))))) := Lib.hid (by rw [htk, List.length_append, strV_app]; exact own')
          have HB6 := Lib.hid (HB.out.grown gb HB.out.size (fun i h => (OWN.out.lt i h).1))
          obtain ⟨k, hk⟩ : ∃ k, p.2.length = k := ⟨_, rfl⟩
          rw [hk] at hc hrun
          clear own' gb htk hl1 hpo hm hv hk
          go_wp2_with (at_builtin; refine wpList_append_run rfl (.tmp 31) (.tmp 32) 45 rfl rfl rfl hrun ?_)
          go_roundw
          case rel => exact ⟨q + 1, by omega, by go_num, HW.out, HB6.out⟩
          case measure => simp [intOf]; omega
        · obtain rfl : q = j := by omega
          have own := OWN.out
          rw [List.take_of_length_le (by rw [HN.out]; exact Nat.le_refl _), HTT.out] at own
          have OWN2 := Lib.hid own
          clear own
          go_wp2_with fail
          go_ret
          exact ⟨_, rfl, OWN2.out, HB.out⟩
end Go.Proofs.YtnhnphifhkkboaaDoor
namespace Go.Proofs.YtnhnphifhkkboaaDoor
open Go.RowKit Go.Shelf
set_option linter.unusedVariables false
set_option linter.unusedSimpArgs false
set_option maxRecDepth 100000
def vdcW : ByteArray := ⟨#[118, 100, 99]⟩
def vceW : ByteArray := ⟨#[118, 99, 101]⟩
def portW : ByteArray := ⟨#[112, 111, 114, 116]⟩
/-- Texts, one behind the other. -/
def catS (ls : List ByteArray) : ByteArray := ⟨(Lib.join (ls.map (·.data.toList)) []).toArray⟩
def textLs (P : Ps) : List ByteArray :=
  [lineB [pgK, itoB ((P.n / 8192 : Nat) : Int)]] ++ imgL P.z P.n ++ fedL vdcW (zL P.vdc) P.vdc.length ++ fedL vceW (zL P.vce) P.vce.length ++ fedL portW (zL P.port) P.port.length ++ edgL (eL P.edges) P.edges.length ++ [lineB [bgK, itoB P.bud]]
def textB (P : Ps) : ByteArray := catS (textLs P)
def chkP (P : Ps) : Int × Int := chkS P.n P.vdc.length P.vce.length P.port.length (eL P.edges) P.edges.length P.bud
def textF (P : Ps) : Int × Int := if (chkP P).1 ≠ 0 then chkP P else if 200000 < (textB P).size then (2, 0) else (0, 0)
def textS (P : Ps) : ByteArray := if (textF P).1 ≠ 0 then ⟨#[]⟩ else textB P
theorem chk_ok {P : Ps} (h : (chkP P).1 = 0) (hb : ∀ k, k < P.edges.length → 0 ≤ (eL P.edges k).b) :
    chkP P = (0, 0) ∧ imgE P.n = 0 ∧ P.n ≤ 1048576 ∧ P.vdc.length ≤ 10000 ∧ P.vce.length ≤ 10000 ∧ P.port.length ≤ 10000 ∧ P.edges.length ≤ 1000 ∧ EdOk (eL P.edges) P.edges.length ∧ 0 ≤ P.bud ∧ P.bud ≤ 1099511627776 := by
  unfold chkP chkS at h ⊢
  split at h
  · simp at h
  · rename_i h1
    rw [if_neg h1]
    split at h
    · simp at h
    · rename_i h2
      rw [if_neg h2]
      split at h
      · rename_i h3; exact absurd h h3
      · rename_i h3
        rw [if_neg h3]
        split at h
        · simp at h
        · rename_i h4
          rw [if_neg h4]
          have hc := chk_zero (Classical.byContradiction h3)
          have h5 : imgE P.n = 0 := by unfold imgE at h1 ⊢; split; rfl; rename_i q; rw [if_neg q] at h1; exact absurd rfl h1
          have h6 : P.n ≤ 1048576 := by unfold imgE at h5; split at h5; rename_i q; exact q.2.2; simp at h5
          have h7 : ¬ (10000 < P.vdc.length ∨ 10000 < P.vce.length ∨ 10000 < P.port.length) := by unfold longB at h2; simpa using h2
          exact ⟨rfl, h5, h6, by omega, by omega, by omega, hc.1, fun k hk => by have := bad_zero (hc.2.1 k hk); exact ⟨hb k hk, this.1, this.2.1, by omega⟩, by omega, by omega⟩
theorem results_tmp_cell {P : Program} {fn : Func} {s u : Tmp} {t : TypeId} {v v2 : Value} {tmps : Array Value} {a : Addr} {w : World} (h : fn.results = #[.tmp u, .cell s t]) (hu : tmps[u]?.getD undef = v2) (ha : tmps[s]?.getD undef = .pointer (some a)) (hl : (loadVar t a).run P w = .ok v w) :
    (results fn tmps).run P w = .ok (.tuple #[v2, v]) w := by
  simp [results, h, hu, ha, asAddr, hl]
theorem lineB_le (ws : List ByteArray) (m : Nat) (h : ∀ x ∈ ws, x.size ≤ m) : (lineB ws).size ≤ (m + 1) * ws.length + 1 := by
  unfold lineB
  rw [ByteArray.size_append]
  have := join_le ws m h
  show _ + 1 ≤ _
  omega
theorem joinL_nil : ∀ ls : List (List UInt8), Lib.join ls [] = ls.flatten
  | [] => rfl
  | x :: r => by rw [Lib.join_cons]; unfold Lib.joinTail; simp
theorem catS_size (ls : List ByteArray) (m : Nat) (h : ∀ x ∈ ls, x.size ≤ m) : (catS ls).size ≤ m * ls.length := by
  show (Lib.join (ls.map (·.data.toList)) []).toArray.size ≤ _
  rw [List.size_toArray, joinL_nil]
  induction ls with
  | nil => exact Nat.zero_le _
  | cons x r ih =>
    have h1 := ih (fun y hy => h y (List.mem_cons_of_mem _ hy))
    have h2 := h x (by simp)
    have h3 : x.data.toList.length = x.size := Array.length_toList
    simp only [List.map_cons, List.flatten_cons, List.length_append, List.length_cons, Nat.mul_add, h3]
    omega
theorem textLs_line (P : Ps) (hb : -9223372036854775808 ≤ P.bud ∧ P.bud ≤ 9223372036854775807) (hn : P.n ≤ 1048576) (hE : EdOk (eL P.edges) P.edges.length) : ∀ l ∈ textLs P, l.size ≤ 1000 := by
  intro l hl
  have two : ∀ a b : ByteArray, a.size ≤ 49 → b.size ≤ 49 → (lineB [a, b]).size ≤ 1000 := fun a b h1 h2 => Nat.le_trans (lineB_le [a, b] 49 (fun x hx => by rcases List.mem_cons.1 hx with rfl | hx; exact h1; rw [List.mem_singleton.1 hx]; exact h2)) (show (49 + 1) * 2 + 1 ≤ 1000 by decide)
  have fed : ∀ (w : ByteArray) (z : Nat → Int) (n : Nat), w.size ≤ 49 → l ∈ fedL w z n → l.size ≤ 1000 := fun w z n hw h => by
    obtain ⟨x, _, rfl⟩ := List.mem_map.1 h
    have : rwN n x.val ≤ 16 := by unfold rwN; omega
    exact two _ _ hw (Nat.le_trans (dgJ_le _ _) (by omega))
  unfold textLs at hl
  simp only [List.mem_append, List.mem_singleton] at hl
  rcases hl with ((((((rfl | h) | h) | h) | h) | h) | rfl)
  · exact two _ _ (by decide) (Nat.le_trans (itoB_le _ (by omega) (by omega)) (by decide))
  · unfold imgL imgLs at h
    obtain ⟨p, _, h⟩ := List.mem_flatMap.1 h
    obtain ⟨x, _, rfl⟩ := List.mem_map.1 h
    have : rwN p.2 x.val ≤ 16 := by unfold rwN; omega
    refine Nat.le_trans (lineB_le _ 49 (fun y hy => ?_)) (show (49 + 1) * 3 + 1 ≤ 1000 by decide)
    simp only [List.mem_cons, List.not_mem_nil, or_false] at hy
    rcases hy with rfl | rfl | rfl
    · decide
    · rw [hx6_size]; decide
    · exact Nat.le_trans (dgJ_le _ _) (by omega)
  · exact fed _ _ _ (by decide) h
  · exact fed _ _ _ (by decide) h
  · exact fed _ _ _ (by decide) h
  · obtain ⟨k, hk, rfl⟩ := List.mem_map.1 h
    have hE2 := hE k (by simpa using hk)
    refine Nat.le_trans (lineB_le _ 49 (fun y hy => ?_)) (show (49 + 1) * 3 + 1 ≤ 1000 by decide)
    simp only [List.mem_cons, List.not_mem_nil, or_false] at hy
    rcases hy with rfl | rfl | rfl
    · exact Nat.le_trans (upW_le _) (by decide)
    · exact Nat.le_trans (itoB_le _ (by omega) (by omega)) (by decide)
    · exact Nat.le_trans (nmN_le _) (by decide)
  · exact two _ _ (by decide) (Nat.le_trans (itoB_le _ hb.1 hb.2) (by decide))
theorem textLs_len (P : Ps) (h1 : P.n ≤ 1048576) (h2 : P.vdc.length ≤ 10000) (h3 : P.vce.length ≤ 10000) (h4 : P.port.length ≤ 10000) (h5 : P.edges.length ≤ 1000) : 0 < (textLs P).length ∧ (textLs P).length ≤ 110000000000 := by
  have hi := imgL_take_le P.z P.n (runs P.z P.n).length h1
  rw [List.take_of_length_le (Nat.le_refl _)] at hi
  have fl : ∀ (w : ByteArray) (z : Nat → Int) (n : Nat), n ≤ 10000 → (fedL w z n).length ≤ 10000 := fun w z n hn => by
    unfold fedL; rw [List.length_map, rwL_len]; unfold rwCnt; omega
  have e1 := fl vdcW (zL P.vdc) P.vdc.length h2
  have e2 := fl vceW (zL P.vce) P.vce.length h3
  have e3 := fl portW (zL P.port) P.port.length h4
  have e4 := edgL_len (eL P.edges) P.edges.length
  unfold textLs imgL
  simp only [List.length_append, List.length_singleton]
  omega
/-- Lines of the call's own, put together. -/
theorem sccat_own {w : World} {B : Nat} {v : Value} {xs : List ByteArray} (h : w.ownsRow B 9 1 v xs.length (strV xs)) (h0 : 0 < xs.length) (hN : xs.length ≤ 140737488355328) (hl : (catS xs).size ≤ 140737488355328) :
    Calls Tryd.prog 54 #[v, .string ⟨#[]⟩] w fun e w' => e = .returned (.string (catS xs)) ∧ Below w.heap.size w w' := by
  obtain ⟨A, cap, rfl, h1, _, h3, _, h4, _⟩ := own_srow h
  cases A with
  | none => have := (h4 rfl).1; omega
  | some ad =>
    obtain ⟨g, rfl⟩ : ∃ g, ad = ⟨g, 0, none⟩ := by
      rcases h.2 with ⟨e, _⟩ | ⟨g, _, _, e, _⟩
      · cases e
      · injection e with e; injection e with e; exact ⟨g, e⟩
    exact sh_strings_Join g 0 cap xs ⟨#[]⟩ w (fun j x hx => by
      obtain ⟨ad', e', _, h5⟩ := h3 j x hx
      injection e' with e'
      rw [← e'] at h5
      have ha : (⟨g, 0, none⟩ : Addr).add j = ⟨g, 0 + j, none⟩ := by
        unfold Addr.add; split
        · rename_i hj; subst hj; rfl
        · rfl
      rw [ha] at h5
      exact h5) (by
      obtain ⟨ad', e', h5, _⟩ := h3 0 xs[0] (List.getElem?_eq_getElem h0)
      injection e' with e'
      rw [← e'] at h5
      exact h5) hN h1 hl
/-- What has been made of a text: rows of lines, and blocks. -/
def TxQ (w0 W : World) (rows : List (Value × List ByteArray)) (bl : List (Nat × TypeId × Array Value)) : Prop :=
  Below w0.heap.size w0 W ∧ (∀ p ∈ rows, W.ownsRow w0.heap.size 9 1 p.1 p.2.length (strV p.2)) ∧ (∀ x ∈ bl, Blk W x.1 x.2.1 x.2.2)
section
variable {w0 W W' : World} {rows : List (Value × List ByteArray)} {bl : List (Nat × TypeId × Array Value)}
theorem TxQ.later (h : TxQ w0 W rows bl) (hb : Below W.heap.size W W') : TxQ w0 W' rows bl :=
  ⟨h.1.trans (hb.mono h.1.size), fun p hp => own_below (h.2.1 p hp) hb, fun x hx => (h.2.2 x hx).below hb (h.2.2 x hx).lt⟩
theorem TxQ.drew (h : TxQ w0 W rows bl) : TxQ w0 W.drew rows bl := h.later (Below.refl _ W).drew
theorem TxQ.row {v : Value} {l : List ByteArray} (h : TxQ w0 W rows bl) (hb : Below W.heap.size W W') (own : W'.ownsRow W.heap.size 9 1 v l.length (strV l)) : TxQ w0 W' ((v, l) :: rows) bl := by
  have h2 := h.later hb
  refine ⟨h2.1, fun p hp => ?_, h2.2.2⟩
  rcases List.mem_cons.1 hp with rfl | hp
  · exact rown_mono own h.1.size
  · exact h2.2.1 p hp
theorem TxQ.make (h : TxQ w0 W rows bl) (t : TypeId) (cs : Array Value) : TxQ w0 (W.alloc (.cells cs t)) rows ((W.heap.size, t, cs) :: bl) := by
  have h2 := h.later ((Below.refl _ W).alloc (Nat.le_refl _) (.cells cs t))
  refine ⟨h2.1, h2.2.1, fun x hx => ?_⟩
  rcases List.mem_cons.1 hx with rfl | hx
  · exact Blk.new _ _ _
  · exact h2.2.2 x hx
theorem TxQ.one (h : TxQ w0 W rows bl) (L : ByteArray) : TxQ w0 (W.alloc (.cells #[.string L] 9)) ((.slice (some ⟨W.heap.size, 0, none⟩) 1 1, [L]) :: rows) bl := by
  refine h.row ((Below.refl _ W).alloc (Nat.le_refl _) _) ⟨rfl, Or.inr ⟨W.heap.size, 1, #[.string L], rfl, Nat.le_refl _, Blk.new _ _ _, Nat.le_refl _, by unfold maxLen; decide, rfl, rfl⟩⟩
theorem TxQ.at_ (h : TxQ w0 W rows bl) (g : Nat) (t : TypeId) (cs : Array Value) (hm : (g, t, cs) ∈ bl) : Blk W g t cs := h.2.2 _ hm
end
end Go.Proofs.YtnhnphifhkkboaaDoor
namespace Go.Proofs.YtnhnphifhkkboaaDoor
open Go.RowKit Go.Shelf
set_option linter.unusedVariables false
set_option linter.unusedSimpArgs false
set_option maxRecDepth 100000
set_option maxHeartbeats 64000000 in
theorem sctext_any {w : World} (s : Sv) (P : Ps) (h : ScrV w s P) (ok : SvOk s) (hN : NmT w) (hT : pow10T w) (hb0 : ∀ k, k < P.edges.length → 0 ≤ (eL P.edges k).b) :
    Calls Tryd.prog 18 #[.agg s.cs] w fun e w' => e = .returned (.tuple #[.string (textS P), fltV (textF P)]) ∧ Below w.heap.size w w' := by
  have hCH := fun (W : World) (hb : Below w.heap.size w W) => sccheck_any (w := W) s (eL P.edges) ok (FRow.keep h.edges.2.2.2.1 hb)
  have hch : chkS s.n s.a s.b s.c (eL P.edges) s.m s.bud = chkP P := by
    unfold chkP; rw [h.rom.1, h.vdc.1, h.vce.1, h.port.1, h.edges.1, h.bud]
  rw [hch] at hCH
  have HF : Hid (textF P = if (chkP P).1 ≠ 0 then chkP P else if 200000 < (textB P).size then (2, 0) else (0, 0)) := Lib.hid rfl
  obtain ⟨ck, hck⟩ : ∃ q, chkP P = q := ⟨_, rfl⟩
  rw [hck] at hCH HF
  have HCK := Lib.hid hck
  have HC := Lib.hid hCH
  have HSV := Lib.hid (And.intro h (And.intro ok (And.intro hN (And.intro hT hb0))))
  clear hCH hch hck h ok hN hT hb0
  obtain ⟨A, n, ca, V, a, cv, C, b, cc, R, c, cr, E, m, ce, bud⟩ := s
  unfold Sv.cs at HC ⊢
  dsimp only at HC ⊢
  obtain ⟨k1, k2⟩ := ck
  unfold fltV at HC ⊢
  dsimp only at HC
  go_enter Tryd.func18, Tryd.ntmps18
  go_upto_region 1 with fail
  have hX : Blk ((w.alloc (.cells #[.slice A n ca, .slice V a cv, .slice C b cc, .slice R c cr, .slice E m ce, .int .i64 bud] 27)).alloc (.cells #[.int .i64 0, .int .i64 0] 34)) w.heap.size 27 #[.slice A n ca, .slice V a cv, .slice C b cc, .slice R c cr, .slice E m ce, .int .i64 bud] := (Blk.new w _ _).alloc _
  have hG : Blk ((w.alloc (.cells #[.slice A n ca, .slice V a cv, .slice C b cc, .slice R c cr, .slice E m ce, .int .i64 bud] 27)).alloc (.cells #[.int .i64 0, .int .i64 0] 34)) (w.heap.size + 1) 34 #[.int .i64 0, .int .i64 0] := Blk.new_ (by simp)
  have hB : Below w.heap.size w ((w.alloc (.cells #[.slice A n ca, .slice V a cv, .slice C b cc, .slice R c cr, .slice E m ce, .int .i64 bud] 27)).alloc (.cells #[.int .i64 0, .int .i64 0] 34)) := ((Below.refl _ w).alloc (Nat.le_refl _) _).alloc (by simp) _
  generalize World.alloc (World.alloc w _) _ = w2 at *
  have HB2 := Lib.hid hB
  have X2 := Lib.hid hX
  have G2 := Lib.hid hG
  have x2 := X2.out
  clear hX hG hB
  go_upto_region 2 with ((first | (refine wpList_load_row rfl 27 (.tmp 1) rfl w.heap.size (by rfl) 27 #[.slice A n ca, .slice V a cv, .slice C b cc, .slice R c cr, .slice E m ce, .int .i64 bud] (0, 0) _ x2 Tryd.underlying27 rfl sizeS ?_) | (go_at_call 13; refine (HC.out _ HB2.out).mono ?_; rintro e w3 ⟨rfl, b3⟩)))
  have X3 := Lib.hid ((X2.out.below b3 X2.out.lt).alloc (.cells #[.int .i64 k1, .int .i64 k2] 34))
  have G3 := Lib.hid ((G2.out.below b3 G2.out.lt).alloc (.cells #[.int .i64 k1, .int .i64 k2] 34))
  have K3 := Lib.hid (Blk.new w3 34 #[.int .i64 k1, .int .i64 k2])
  have HB3 := Lib.hid ((HB2.out.trans (b3.mono HB2.out.size)).alloc (Nat.le_trans HB2.out.size b3.size) (.cells #[.int .i64 k1, .int .i64 k2] 34))
  have G2lt := G2.out.lt
  have b3size := b3.size
  clear X2 G2 HB2 b3 x2 HC
  generalize World.alloc w3 _ = w4 at *
  have hq3 : w.heap.size + 1 < w3.heap.size := Nat.lt_of_lt_of_le G2lt b3size
  generalize w3.heap.size = q at *
  obtain ⟨x, hx⟩ : ∃ x, w.heap.size = x := ⟨_, rfl⟩
  have HX := Lib.hid hx
  have HQ : Hid (x + 1 < q) := Lib.hid (by rw [← hx]; exact hq3)
  clear hq3 G2lt b3size
  rw [hx] at X3 G3 ⊢
  have c0 : w4.cell? ⟨q, 0, none⟩ = some (.int .i64 k1) := K3.out.cell 0
  have c1 : w4.cell? ⟨q, 1, none⟩ = some (.int .i64 k2) := K3.out.cell 1
  by_cases hk1 : k1 = 0
  · subst hk1
    have hall := chk_ok (P := P) (by rw [HCK.out]) HSV.out.2.2.2.2
    have hk2 : k2 = 0 := by have h1 := hall.1; rw [HCK.out] at h1; injection h1
    subst hk2
    have HA := Lib.hid hall
    clear hall
    go_upto_region 4 with fail
    obtain ⟨hSV, hOK, hN, hT, hb0⟩ := HSV.out
    have hpn := hSV.rom.1
    have hpa := hSV.vdc.1
    have hpb := hSV.vce.1
    have hpc := hSV.port.1
    have hpm := hSV.edges.1
    have hpbud := hSV.bud
    dsimp only at hpn hpa hpb hpc hpm hpbud
    have hLS : textLs P = [lineB [pgK, itoB ((P.n / 8192 : Nat) : Int)]] ++ imgL P.z P.n ++ fedL vdcW (zL P.vdc) P.vdc.length ++ fedL vceW (zL P.vce) P.vce.length ++ fedL portW (zL P.port) P.port.length ++ edgL (eL P.edges) P.edges.length ++ [lineB [bgK, itoB P.bud]] := rfl
    have hTB : textB P = catS (textLs P) := rfl
    have hAl := textLs_line P ⟨by have := HA.out.2.2.2.2.2.2.2.2.1; omega, by have := HA.out.2.2.2.2.2.2.2.2.2; omega⟩ HA.out.2.2.1 HA.out.2.2.2.2.2.2.2.1
    have hln := textLs_len P HA.out.2.2.1 HA.out.2.2.2.1 HA.out.2.2.2.2.1 HA.out.2.2.2.2.2.1 HA.out.2.2.2.2.2.2.1
    have hcat := catS_size (textLs P) 1000 hAl
    have hEd := HA.out.2.2.2.2.2.2.2.1
    have hbd := And.intro HA.out.2.2.2.2.2.2.2.2.1 HA.out.2.2.2.2.2.2.2.2.2
    have hnE := HA.out.2.1
    have hml := HA.out.2.2.2.2.2.2.1
    have hfl := And.intro HA.out.2.2.2.1 (And.intro HA.out.2.2.2.2.1 HA.out.2.2.2.2.2.1)
    have hn1 := HA.out.2.2.1
    rw [← hpn] at hLS hnE hn1
    rw [← hpa, ← hpb, ← hpc] at hLS hfl
    rw [← hpm] at hLS hEd hml
    rw [← hpbud] at hLS hbd
    have hd1 := itoB_le ((n / 8192 : Nat) : Int) (by omega) (by omega)
    have hd2 := itoB_le bud (by omega) (by omega)
    have K4 := Lib.hid (fun (W : World) (hb : Below w.heap.size w W) => scdecimal_any ((n / 8192 : Nat) : Int) (by omega) (by omega) W (pow10_below hT hb))
    have K28 := Lib.hid (fun (W : World) (hb : Below w.heap.size w W) => scdecimal_any bud (by omega) (by omega) W (pow10_below hT hb))
    have K10 := Lib.hid (fun (W : World) (hb : Below w.heap.size w W) => scimage_any (w := W) hSV.rom.2.1 hn1 hnE (hSV.rom.2.2.2.1.keep hb))
    have K14 := Lib.hid (fun (W : World) (hb : Below w.heap.size w W) => scfed_any (w := W) vdcW (by decide) hSV.vdc.2.1 (Nat.le_trans hfl.1 (by decide)) (hSV.vdc.2.2.2.1.keep hb))
    have K18 := Lib.hid (fun (W : World) (hb : Below w.heap.size w W) => scfed_any (w := W) vceW (by decide) hSV.vce.2.1 (Nat.le_trans hfl.2.1 (by decide)) (hSV.vce.2.2.2.1.keep hb))
    have K22 := Lib.hid (fun (W : World) (hb : Below w.heap.size w W) => scfed_any (w := W) portW (by decide) hSV.port.2.1 (Nat.le_trans hfl.2.2 (by decide)) (hSV.port.2.2.2.1.keep hb))
    have K25 := Lib.hid (fun (W : World) (hb : Below w.heap.size w W) => scchanges_any (w := W) (c := ce) (Nat.le_trans hml (by decide)) hEd (FRow.keep hSV.edges.2.2.2.1 hb) (hN.below hb hN.1) (pow10_below hT hb))
    have hquo : ((n / 8192 : Nat) : Int) = (n : Int) / 8192 := by omega
    dsimp only at K4 K28 K10 K14 K18 K22 K25
    unfold pgK bgK at hLS
    unfold vdcW at K14 hLS
    unfold vceW at K18 hLS
    unfold portW at K22 hLS
    obtain ⟨D1, hD1⟩ : ∃ q, itoB ((n / 8192 : Nat) : Int) = q := ⟨_, rfl⟩
    obtain ⟨D2, hD2⟩ : ∃ q, itoB bud = q := ⟨_, rfl⟩
    rw [hD1] at hLS K4 hd1
    rw [hD2] at hLS K28 hd2
    obtain ⟨L1, hL1⟩ : ∃ q, lineB [⟨#[112, 97, 103, 101, 115]⟩, D1] = q := ⟨_, rfl⟩
    obtain ⟨L2, hL2⟩ : ∃ q, lineB [⟨#[98, 117, 100, 103, 101, 116]⟩, D2] = q := ⟨_, rfl⟩
    obtain ⟨I, hI⟩ : ∃ q, imgL P.z n = q := ⟨_, rfl⟩
    obtain ⟨F1, hF1⟩ : ∃ q, fedL ⟨#[118, 100, 99]⟩ (zL P.vdc) a = q := ⟨_, rfl⟩
    obtain ⟨F2, hF2⟩ : ∃ q, fedL ⟨#[118, 99, 101]⟩ (zL P.vce) b = q := ⟨_, rfl⟩
    obtain ⟨F3, hF3⟩ : ∃ q, fedL ⟨#[112, 111, 114, 116]⟩ (zL P.port) c = q := ⟨_, rfl⟩
    obtain ⟨E1, hE1⟩ : ∃ q, edgL (eL P.edges) m = q := ⟨_, rfl⟩
    rw [hL1, hL2, hI, hF1, hF2, hF3, hE1] at hLS
    rw [hI] at K10
    rw [hF1] at K14
    rw [hF2] at K18
    rw [hF3] at K22
    rw [hE1] at K25
    obtain ⟨TL, hTL⟩ : ∃ q, textLs P = q := ⟨_, rfl⟩
    obtain ⟨TB, hTBB⟩ : ∃ q, textB P = q := ⟨_, rfl⟩
    rw [hTL] at hLS hTB hln hcat
    rw [hTBB] at hTB
    have hFp := HF.out
    rw [hTBB, if_neg (by simp)] at hFp
    have hcs : (catS TL).size ≤ 140737488355328 := Nat.le_trans hcat (by omega)
    rw [← hTB] at hcs
    have HFL : Hid (∀ v1 v2 v3 v4 v5 v6 v7 : Value, flS [(v1, [L1]), (v2, I), (v3, F1), (v4, F2), (v5, F3), (v6, E1), (v7, [L2])] = TL) := Lib.hid (fun v1 v2 v3 v4 v5 v6 v7 => by rw [hLS]; simp [flS])
    have HLN := Lib.hid hln
    have HTB := Lib.hid hTB
    have HTBB := Lib.hid hTBB
    have HCS := Lib.hid hcs
    have HFP := Lib.hid hFp
    have HL1 := Lib.hid hL1
    have HL2 := Lib.hid hL2
    have HD1 : Hid (D1.size ≤ 1000000) := Lib.hid (Nat.le_trans hd1 (by decide))
    have HD2 : Hid (D2.size ≤ 1000000) := Lib.hid (Nat.le_trans hd2 (by decide))
    have sx : Hid (TxQ w w4 [] [(x, 27, #[.slice A n ca, .slice V a cv, .slice C b cc, .slice R c cr, .slice E m ce, .int .i64 bud]), (x + 1, 34, #[.int .i64 0, .int .i64 0])]) := Lib.hid ⟨HB3.out, fun p hp => by simp at hp, fun y hy => by
      simp only [List.mem_cons, List.not_mem_nil, or_false] at hy
      rcases hy with rfl | rfl
      · exact X3.out
      · exact G3.out⟩
    have CE : Hid (∀ W, Blk W x 27 #[.slice A n ca, .slice V a cv, .slice C b cc, .slice R c cr, .slice E m ce, .int .i64 bud] → W.cell? ⟨x, 0, none⟩ = some (.slice A n ca) ∧ W.cell? ⟨x, 1, none⟩ = some (.slice V a cv) ∧ W.cell? ⟨x, 2, none⟩ = some (.slice C b cc) ∧ W.cell? ⟨x, 3, none⟩ = some (.slice R c cr) ∧ W.cell? ⟨x, 4, none⟩ = some (.slice E m ce) ∧ W.cell? ⟨x, 5, none⟩ = some (.int .i64 bud)) := Lib.hid (fun W h => ⟨h.cell 0, h.cell 1, h.cell 2, h.cell 3, h.cell 4, h.cell 5⟩)
    have hn2 : n ≤ 1048576 := hn1
    have hw8 : IntKind.i64.wrap ((n : Int) / 8192) = (n : Int) / 8192 := IntWalk.i64_in _ (by omega)
    rw [hquo] at K4
    clear hSV hOK hN hT hb0 hpn hpa hpb hpc hpm hpbud hLS hTB hAl hln hcat hEd hbd hnE hml hfl hn1 hd1 hd2 hD1 hD2 hL1 hL2 hI hF1 hF2 hF3 hE1 hTL hTBB hFp hcs HF HA HSV HCK X3 G3 K3 HB3 c0 c1
    go_cut [5] from 11 to 53 (fun v wx => v = .string TB ∧ Blk wx (x + 1) 34 #[.int .i64 0, .int .i64 0] ∧ Below w.heap.size w wx)
    case first =>
      refine rg_begin (S := fun w' => w'.cell? ⟨x, 0, none⟩ = some (.slice A n ca) ∧ w'.cell? ⟨x, 1, none⟩ = some (.slice V a cv) ∧ w'.cell? ⟨x, 2, none⟩ = some (.slice C b cc) ∧ w'.cell? ⟨x, 3, none⟩ = some (.slice R c cr) ∧ w'.cell? ⟨x, 4, none⟩ = some (.slice E m ce) ∧ w'.cell? ⟨x, 5, none⟩ = some (.int .i64 bud)) 36 #[false, false, false, false, false, false, false, false, false, false, false, false, false, false, false, false, false, false, false, false, false, false, false, false, false, false, false, false, false, false, false, false, false, false, false, false] (by kernel_rfl) (by kernel_rfl) (by kernel_rfl) ?_ (fun hHeld => ?_)
      · exact CE.out _ (sx.out.drew.at_ x 27 #[.slice A n ca, .slice V a cv, .slice C b cc, .slice R c cr, .slice E m ce, .int .i64 bud] (by repeat (first | (with_reducible exact List.mem_cons_self) | apply List.mem_cons_of_mem)))
      refine rg_take (i := 0) (d := some 12) (l := #[true, false, false, false, false, false, false, false, false, false, false, false, false, false, false, false, false, false, false, false, false, false, false, false, false, false, false, false, false, false, false, false, false, false, false, false]) (fuel := 35) (v := ?_) rfl (by kernel_rfl) (by kernel_rfl) (by kernel_rfl) (by kernel_rfl) (by kernel_rfl) (fun _ _ _ h => h) (by kernel_rfl) ?_ (by assumption) ?_
      rotate_left 1
      · (intro wS hSw; (try dsimp only at hSw); go_simp; try with_reducible rfl)
      try simp only [Act.put, List.setIfInBounds_toArray, List.set_cons_zero, List.set_cons_succ]
      refine rg_take (i := 1) (d := some 13) (l := #[true, true, false, false, false, false, false, false, false, false, false, false, false, false, false, false, false, false, false, false, false, false, false, false, false, false, false, false, false, false, false, false, false, false, false, false]) (fuel := 34) (v := ?_) rfl (by kernel_rfl) (by kernel_rfl) (by kernel_rfl) (by kernel_rfl) (by kernel_rfl) (fun _ _ _ h => h) (by kernel_rfl) ?_ (by assumption) ?_
      rotate_left 1
      · (intro wS hSw; (try dsimp only at hSw); go_simp; try with_reducible rfl)
      try simp only [Act.put, List.setIfInBounds_toArray, List.set_cons_zero, List.set_cons_succ]
      refine rg_take (i := 2) (d := some 14) (l := #[true, true, true, false, false, false, false, false, false, false, false, false, false, false, false, false, false, false, false, false, false, false, false, false, false, false, false, false, false, false, false, false, false, false, false, false]) (fuel := 33) (v := ?_) rfl (by kernel_rfl) (by kernel_rfl) (by kernel_rfl) (by kernel_rfl) (by kernel_rfl) (fun _ _ _ h => h) (by kernel_rfl) ?_ (by assumption) ?_
      rotate_left 1
      · (intro wS hSw; (try dsimp only at hSw); go_simp; try with_reducible rfl)
      try simp only [Act.put, List.setIfInBounds_toArray, List.set_cons_zero, List.set_cons_succ]
      refine rg_take (i := 3) (d := some 15) (l := #[true, true, true, true, false, false, false, false, false, false, false, false, false, false, false, false, false, false, false, false, false, false, false, false, false, false, false, false, false, false, false, false, false, false, false, false]) (fuel := 32) (v := ?_) rfl (by kernel_rfl) (by kernel_rfl) (by kernel_rfl) (by kernel_rfl) (by kernel_rfl) (fun _ _ _ h => h) (by kernel_rfl) ?_ (by assumption) ?_
      rotate_left 1
      · (intro wS hSw; (try dsimp only at hSw); go_simp; try with_reducible rfl)
      try simp only [Act.put, List.setIfInBounds_toArray, List.set_cons_zero, List.set_cons_succ]
      refine rg_take (i := 8) (d := some 20) (l := #[true, true, true, true, false, false, false, false, true, false, false, false, false, false, false, false, false, false, false, false, false, false, false, false, false, false, false, false, false, false, false, false, false, false, false, false]) (fuel := 31) (v := ?_) rfl (by kernel_rfl) (by kernel_rfl) (by kernel_rfl) (by kernel_rfl) (by kernel_rfl) (fun _ _ _ h => h) (by kernel_rfl) ?_ (by assumption) ?_
      rotate_left 1
      · (intro wS hSw; (try dsimp only at hSw); go_simp; try with_reducible rfl)
      try simp only [Act.put, List.setIfInBounds_toArray, List.set_cons_zero, List.set_cons_succ]
      refine rg_take (i := 9) (d := some 21) (l := #[true, true, true, true, false, false, false, false, true, true, false, false, false, false, false, false, false, false, false, false, false, false, false, false, false, false, false, false, false, false, false, false, false, false, false, false]) (fuel := 30) (v := ?_) rfl (by kernel_rfl) (by kernel_rfl) (by kernel_rfl) (by kernel_rfl) (by kernel_rfl) (fun _ _ _ h => h) (by kernel_rfl) ?_ (by assumption) ?_
      rotate_left 1
      · (intro wS hSw; (try dsimp only at hSw); go_simp; try with_reducible rfl)
      try simp only [Act.put, List.setIfInBounds_toArray, List.set_cons_zero, List.set_cons_succ]
      refine rg_take (i := 11) (d := some 23) (l := #[true, true, true, true, false, false, false, false, true, true, false, true, false, false, false, false, false, false, false, false, false, false, false, false, false, false, false, false, false, false, false, false, false, false, false, false]) (fuel := 29) (v := ?_) rfl (by kernel_rfl) (by kernel_rfl) (by kernel_rfl) (by kernel_rfl) (by kernel_rfl) (fun _ _ _ h => h) (by kernel_rfl) ?_ (by assumption) ?_
      rotate_left 1
      · (intro wS hSw; (try dsimp only at hSw); go_simp; try with_reducible rfl)
      try simp only [Act.put, List.setIfInBounds_toArray, List.set_cons_zero, List.set_cons_succ]
      refine rg_take (i := 12) (d := some 24) (l := #[true, true, true, true, false, false, false, false, true, true, false, true, true, false, false, false, false, false, false, false, false, false, false, false, false, false, false, false, false, false, false, false, false, false, false, false]) (fuel := 28) (v := ?_) rfl (by kernel_rfl) (by kernel_rfl) (by kernel_rfl) (by kernel_rfl) (by kernel_rfl) (fun _ _ _ h => h) (by kernel_rfl) ?_ (by assumption) ?_
      rotate_left 1
      · (intro wS hSw; (try dsimp only at hSw); go_simp; try with_reducible rfl)
      try simp only [Act.put, List.setIfInBounds_toArray, List.set_cons_zero, List.set_cons_succ]
      refine rg_take (i := 13) (d := some 25) (l := #[true, true, true, true, false, false, false, false, true, true, false, true, true, true, false, false, false, false, false, false, false, false, false, false, false, false, false, false, false, false, false, false, false, false, false, false]) (fuel := 27) (v := ?_) rfl (by kernel_rfl) (by kernel_rfl) (by kernel_rfl) (by kernel_rfl) (by kernel_rfl) (fun _ _ _ h => h) (by kernel_rfl) ?_ (by assumption) ?_
      rotate_left 1
      · (intro wS hSw; (try dsimp only at hSw); go_simp; try with_reducible rfl)
      try simp only [Act.put, List.setIfInBounds_toArray, List.set_cons_zero, List.set_cons_succ]
      refine rg_take (i := 15) (d := some 27) (l := #[true, true, true, true, false, false, false, false, true, true, false, true, true, true, false, true, false, false, false, false, false, false, false, false, false, false, false, false, false, false, false, false, false, false, false, false]) (fuel := 26) (v := ?_) rfl (by kernel_rfl) (by kernel_rfl) (by kernel_rfl) (by kernel_rfl) (by kernel_rfl) (fun _ _ _ h => h) (by kernel_rfl) ?_ (by assumption) ?_
      rotate_left 1
      · (intro wS hSw; (try dsimp only at hSw); go_simp; try with_reducible rfl)
      try simp only [Act.put, List.setIfInBounds_toArray, List.set_cons_zero, List.set_cons_succ]
      refine rg_take (i := 16) (d := some 28) (l := #[true, true, true, true, false, false, false, false, true, true, false, true, true, true, false, true, true, false, false, false, false, false, false, false, false, false, false, false, false, false, false, false, false, false, false, false]) (fuel := 25) (v := ?_) rfl (by kernel_rfl) (by kernel_rfl) (by kernel_rfl) (by kernel_rfl) (by kernel_rfl) (fun _ _ _ h => h) (by kernel_rfl) ?_ (by assumption) ?_
      rotate_left 1
      · (intro wS hSw; (try dsimp only at hSw); go_simp; try with_reducible rfl)
      try simp only [Act.put, List.setIfInBounds_toArray, List.set_cons_zero, List.set_cons_succ]
      refine rg_take (i := 17) (d := some 29) (l := #[true, true, true, true, false, false, false, false, true, true, false, true, true, true, false, true, true, true, false, false, false, false, false, false, false, false, false, false, false, false, false, false, false, false, false, false]) (fuel := 24) (v := ?_) rfl (by kernel_rfl) (by kernel_rfl) (by kernel_rfl) (by kernel_rfl) (by kernel_rfl) (fun _ _ _ h => h) (by kernel_rfl) ?_ (by assumption) ?_
      rotate_left 1
      · (intro wS hSw; (try dsimp only at hSw); go_simp; try with_reducible rfl)
      try simp only [Act.put, List.setIfInBounds_toArray, List.set_cons_zero, List.set_cons_succ]
      refine rg_take (i := 19) (d := some 31) (l := #[true, true, true, true, false, false, false, false, true, true, false, true, true, true, false, true, true, true, false, true, false, false, false, false, false, false, false, false, false, false, false, false, false, false, false, false]) (fuel := 23) (v := ?_) rfl (by kernel_rfl) (by kernel_rfl) (by kernel_rfl) (by kernel_rfl) (by kernel_rfl) (fun _ _ _ h => h) (by kernel_rfl) ?_ (by assumption) ?_
      rotate_left 1
      · (intro wS hSw; (try dsimp only at hSw); go_simp; try with_reducible rfl)
      try simp only [Act.put, List.setIfInBounds_toArray, List.set_cons_zero, List.set_cons_succ]
      refine rg_take (i := 20) (d := some 32) (l := #[true, true, true, true, false, false, false, false, true, true, false, true, true, true, false, true, true, true, false, true, true, false, false, false, false, false, false, false, false, false, false, false, false, false, false, false]) (fuel := 22) (v := ?_) rfl (by kernel_rfl) (by kernel_rfl) (by kernel_rfl) (by kernel_rfl) (by kernel_rfl) (fun _ _ _ h => h) (by kernel_rfl) ?_ (by assumption) ?_
      rotate_left 1
      · (intro wS hSw; (try dsimp only at hSw); go_simp; try with_reducible rfl)
      try simp only [Act.put, List.setIfInBounds_toArray, List.set_cons_zero, List.set_cons_succ]
      refine rg_take (i := 21) (d := some 33) (l := #[true, true, true, true, false, false, false, false, true, true, false, true, true, true, false, true, true, true, false, true, true, true, false, false, false, false, false, false, false, false, false, false, false, false, false, false]) (fuel := 21) (v := ?_) rfl (by kernel_rfl) (by kernel_rfl) (by kernel_rfl) (by kernel_rfl) (by kernel_rfl) (fun _ _ _ h => h) (by kernel_rfl) ?_ (by assumption) ?_
      rotate_left 1
      · (intro wS hSw; (try dsimp only at hSw); go_simp; try with_reducible rfl)
      try simp only [Act.put, List.setIfInBounds_toArray, List.set_cons_zero, List.set_cons_succ]
      refine rg_take (i := 23) (d := some 35) (l := #[true, true, true, true, false, false, false, false, true, true, false, true, true, true, false, true, true, true, false, true, true, true, false, true, false, false, false, false, false, false, false, false, false, false, false, false]) (fuel := 20) (v := ?_) rfl (by kernel_rfl) (by kernel_rfl) (by kernel_rfl) (by kernel_rfl) (by kernel_rfl) (fun _ _ _ h => h) (by kernel_rfl) ?_ (by assumption) ?_
      rotate_left 1
      · (intro wS hSw; (try dsimp only at hSw); go_simp; try with_reducible rfl)
      try simp only [Act.put, List.setIfInBounds_toArray, List.set_cons_zero, List.set_cons_succ]
      refine rg_take (i := 24) (d := some 36) (l := #[true, true, true, true, false, false, false, false, true, true, false, true, true, true, false, true, true, true, false, true, true, true, false, true, true, false, false, false, false, false, false, false, false, false, false, false]) (fuel := 19) (v := ?_) rfl (by kernel_rfl) (by kernel_rfl) (by kernel_rfl) (by kernel_rfl) (by kernel_rfl) (fun _ _ _ h => h) (by kernel_rfl) ?_ (by assumption) ?_
      rotate_left 1
      · (intro wS hSw; (try dsimp only at hSw); go_simp; try with_reducible rfl)
      try simp only [Act.put, List.setIfInBounds_toArray, List.set_cons_zero, List.set_cons_succ]
      refine rg_take (i := 26) (d := some 38) (l := #[true, true, true, true, false, false, false, false, true, true, false, true, true, true, false, true, true, true, false, true, true, true, false, true, true, false, true, false, false, false, false, false, false, false, false, false]) (fuel := 18) (v := ?_) rfl (by kernel_rfl) (by kernel_rfl) (by kernel_rfl) (by kernel_rfl) (by kernel_rfl) (fun _ _ _ h => h) (by kernel_rfl) ?_ (by assumption) ?_
      rotate_left 1
      · (intro wS hSw; (try dsimp only at hSw); go_simp; try with_reducible rfl)
      try simp only [Act.put, List.setIfInBounds_toArray, List.set_cons_zero, List.set_cons_succ]
      refine rg_take (i := 27) (d := some 39) (l := #[true, true, true, true, false, false, false, false, true, true, false, true, true, true, false, true, true, true, false, true, true, true, false, true, true, false, true, true, false, false, false, false, false, false, false, false]) (fuel := 17) (v := ?_) rfl (by kernel_rfl) (by kernel_rfl) (by kernel_rfl) (by kernel_rfl) (by kernel_rfl) (fun _ _ _ h => h) (by kernel_rfl) ?_ (by assumption) ?_
      rotate_left 1
      · (intro wS hSw; (try dsimp only at hSw); go_simp; try with_reducible rfl)
      try simp only [Act.put, List.setIfInBounds_toArray, List.set_cons_zero, List.set_cons_succ]
      have sx2 := Lib.hid sx.out.drew
      clear sx
      have sx := sx2
      clear sx2
      generalize World.drew w4 = w5 at *
      refine rg_next (i := 4) (l := #[true, true, true, true, true, false, false, false, true, true, false, true, true, true, false, true, true, true, false, true, true, true, false, true, true, false, true, true, false, false, false, false, false, false, false, false]) (fuel := 16) (by kernel_rfl) rfl (by kernel_rfl) (by kernel_rfl) (fun K hK => ?_)
      go_simp
      go_at_call 57
      refine (K4.out _ sx.out.1).mono ?_
      rintro e w11 ⟨rfl, hb⟩
      have sx2 := Lib.hid (sx.out.later hb)
      clear sx hb
      have sx := sx2
      clear sx2
      first | (refine hK.out _ _ ?_ (fun hHeld => ?_)) | (go_wp2_with fail; refine hK.out _ _ ?_ (fun hHeld => ?_))
      · (try dsimp only); exact CE.out _ (sx.out.at_ x 27 #[.slice A n ca, .slice V a cv, .slice C b cc, .slice R c cr, .slice E m ce, .int .i64 bud] (by repeat (first | (with_reducible exact List.mem_cons_self) | apply List.mem_cons_of_mem)))
      clear hK K
      try simp only [Act.put, List.setIfInBounds_toArray, List.set_cons_zero, List.set_cons_succ]
      refine rg_next (i := 5) (l := #[true, true, true, true, true, true, false, false, true, true, false, true, true, true, false, true, true, true, false, true, true, true, false, true, true, false, true, true, false, false, false, false, false, false, false, false]) (fuel := 15) (by kernel_rfl) rfl (by kernel_rfl) (by kernel_rfl) (fun K hK => ?_)
      go_simp
      skip
      first | (refine hK.out _ _ ?_ (fun hHeld => ?_)) | (go_wp2_with fail; refine hK.out _ _ ?_ (fun hHeld => ?_))
      · (try dsimp only); exact CE.out _ ((sx.out.make 9 #[.string ⟨#[112, 97, 103, 101, 115]⟩, .string D1]).at_ x 27 #[.slice A n ca, .slice V a cv, .slice C b cc, .slice R c cr, .slice E m ce, .int .i64 bud] (by repeat (first | (with_reducible exact List.mem_cons_self) | apply List.mem_cons_of_mem)))
      clear hK K
      try simp only [Act.put, List.setIfInBounds_toArray, List.set_cons_zero, List.set_cons_succ]
      have sx2 := Lib.hid (sx.out.make 9 #[.string ⟨#[112, 97, 103, 101, 115]⟩, .string D1])
      clear sx
      have sx := sx2
      clear sx2
      obtain ⟨g5, hg5⟩ : ∃ q, w11.heap.size = q := ⟨_, rfl⟩
      rw [hg5] at sx ⊢
      clear hg5
      generalize World.alloc w11 _ = w12 at *
      refine rg_next (i := 6) (l := #[true, true, true, true, true, true, true, false, true, true, false, true, true, true, false, true, true, true, false, true, true, true, false, true, true, false, true, true, false, false, false, false, false, false, false, false]) (fuel := 14) (by kernel_rfl) rfl (by kernel_rfl) (by kernel_rfl) (fun K hK => ?_)
      go_simp
      go_at_call 56
      refine (scline2_any (sx.out.at_ g5 9 #[.string ⟨#[112, 97, 103, 101, 115]⟩, .string D1] (by repeat (first | (with_reducible exact List.mem_cons_self) | apply List.mem_cons_of_mem))) (by decide) HD1.out).mono ?_
      rw [HL1.out]
      rintro e w13 ⟨rfl, hb⟩
      have sx2 := Lib.hid (sx.out.later hb)
      clear sx hb
      have sx := sx2
      clear sx2
      first | (refine hK.out _ _ ?_ (fun hHeld => ?_)) | (go_wp2_with fail; refine hK.out _ _ ?_ (fun hHeld => ?_))
      · (try dsimp only); exact CE.out _ (sx.out.at_ x 27 #[.slice A n ca, .slice V a cv, .slice C b cc, .slice R c cr, .slice E m ce, .int .i64 bud] (by repeat (first | (with_reducible exact List.mem_cons_self) | apply List.mem_cons_of_mem)))
      clear hK K
      try simp only [Act.put, List.setIfInBounds_toArray, List.set_cons_zero, List.set_cons_succ]
      refine rg_of (rs := [7, 10]) (fuel := 13) (by kernel_rfl) rfl ?_
      refine rg_step (i := 7) (l := #[true, true, true, true, true, true, true, true, true, true, false, true, true, true, false, true, true, true, false, true, true, true, false, true, true, false, true, true, false, false, false, false, false, false, false, false]) rfl (by kernel_rfl) (by kernel_rfl) ?_ ?_
      · intro K hK
        go_simp
        skip
        first | (refine hK.out _ _ ?_ (fun hHeld => ?_)) | (go_wp2_with fail; refine hK.out _ _ ?_ (fun hHeld => ?_))
        · (try dsimp only); exact CE.out _ ((sx.out.one L1).at_ x 27 #[.slice A n ca, .slice V a cv, .slice C b cc, .slice R c cr, .slice E m ce, .int .i64 bud] (by repeat (first | (with_reducible exact List.mem_cons_self) | apply List.mem_cons_of_mem)))
        clear hK K
        try simp only [Act.put, List.setIfInBounds_toArray, List.set_cons_zero, List.set_cons_succ]
        have sx2 := Lib.hid (sx.out.one L1)
        clear sx
        have sx := sx2
        clear sx2
        obtain ⟨g7, hg7⟩ : ∃ q, w13.heap.size = q := ⟨_, rfl⟩
        rw [hg7] at sx ⊢
        clear hg7
        generalize World.alloc w13 _ = w14 at *
        refine rg_next (i := 10) (l := #[true, true, true, true, true, true, true, true, true, true, true, true, true, true, false, true, true, true, false, true, true, true, false, true, true, false, true, true, false, false, false, false, false, false, false, false]) (fuel := 12) (by kernel_rfl) rfl (by kernel_rfl) (by kernel_rfl) (fun K hK => ?_)
        go_simp
        go_at_call 58
        refine (K10.out _ sx.out.1).mono ?_
        rintro e w15 ⟨v10, rfl, own, hb⟩
        obtain ⟨A10, c10, rfl⟩ := own_sl own
        have sx2 := Lib.hid (sx.out.row hb own)
        clear sx hb own
        have sx := sx2
        clear sx2
        first | (refine hK.out _ _ ?_ (fun hHeld => ?_)) | (go_wp2_with fail; refine hK.out _ _ ?_ (fun hHeld => ?_))
        · (try dsimp only); exact CE.out _ (sx.out.at_ x 27 #[.slice A n ca, .slice V a cv, .slice C b cc, .slice R c cr, .slice E m ce, .int .i64 bud] (by repeat (first | (with_reducible exact List.mem_cons_self) | apply List.mem_cons_of_mem)))
        clear hK K
        try simp only [Act.put, List.setIfInBounds_toArray, List.set_cons_zero, List.set_cons_succ]
        refine rg_next (i := 14) (l := #[true, true, true, true, true, true, true, true, true, true, true, true, true, true, true, true, true, true, false, true, true, true, false, true, true, false, true, true, false, false, false, false, false, false, false, false]) (fuel := 11) (by kernel_rfl) rfl (by kernel_rfl) (by kernel_rfl) (fun K hK => ?_)
        go_simp
        go_at_call 59
        refine (K14.out _ sx.out.1).mono ?_
        rintro e w16 ⟨v14, rfl, own, hb⟩
        obtain ⟨A14, c14, rfl⟩ := own_sl own
        have sx2 := Lib.hid (sx.out.row hb own)
        clear sx hb own
        have sx := sx2
        clear sx2
        first | (refine hK.out _ _ ?_ (fun hHeld => ?_)) | (go_wp2_with fail; refine hK.out _ _ ?_ (fun hHeld => ?_))
        · (try dsimp only); exact CE.out _ (sx.out.at_ x 27 #[.slice A n ca, .slice V a cv, .slice C b cc, .slice R c cr, .slice E m ce, .int .i64 bud] (by repeat (first | (with_reducible exact List.mem_cons_self) | apply List.mem_cons_of_mem)))
        clear hK K
        try simp only [Act.put, List.setIfInBounds_toArray, List.set_cons_zero, List.set_cons_succ]
        refine rg_next (i := 18) (l := #[true, true, true, true, true, true, true, true, true, true, true, true, true, true, true, true, true, true, true, true, true, true, false, true, true, false, true, true, false, false, false, false, false, false, false, false]) (fuel := 10) (by kernel_rfl) rfl (by kernel_rfl) (by kernel_rfl) (fun K hK => ?_)
        go_simp
        go_at_call 59
        refine (K18.out _ sx.out.1).mono ?_
        rintro e w17 ⟨v18, rfl, own, hb⟩
        obtain ⟨A18, c18, rfl⟩ := own_sl own
        have sx2 := Lib.hid (sx.out.row hb own)
        clear sx hb own
        have sx := sx2
        clear sx2
        first | (refine hK.out _ _ ?_ (fun hHeld => ?_)) | (go_wp2_with fail; refine hK.out _ _ ?_ (fun hHeld => ?_))
        · (try dsimp only); exact CE.out _ (sx.out.at_ x 27 #[.slice A n ca, .slice V a cv, .slice C b cc, .slice R c cr, .slice E m ce, .int .i64 bud] (by repeat (first | (with_reducible exact List.mem_cons_self) | apply List.mem_cons_of_mem)))
        clear hK K
        try simp only [Act.put, List.setIfInBounds_toArray, List.set_cons_zero, List.set_cons_succ]
        refine rg_next (i := 22) (l := #[true, true, true, true, true, true, true, true, true, true, true, true, true, true, true, true, true, true, true, true, true, true, true, true, true, false, true, true, false, false, false, false, false, false, false, false]) (fuel := 9) (by kernel_rfl) rfl (by kernel_rfl) (by kernel_rfl) (fun K hK => ?_)
        go_simp
        go_at_call 59
        refine (K22.out _ sx.out.1).mono ?_
        rintro e w18 ⟨v22, rfl, own, hb⟩
        obtain ⟨A22, c22, rfl⟩ := own_sl own
        have sx2 := Lib.hid (sx.out.row hb own)
        clear sx hb own
        have sx := sx2
        clear sx2
        first | (refine hK.out _ _ ?_ (fun hHeld => ?_)) | (go_wp2_with fail; refine hK.out _ _ ?_ (fun hHeld => ?_))
        · (try dsimp only); exact CE.out _ (sx.out.at_ x 27 #[.slice A n ca, .slice V a cv, .slice C b cc, .slice R c cr, .slice E m ce, .int .i64 bud] (by repeat (first | (with_reducible exact List.mem_cons_self) | apply List.mem_cons_of_mem)))
        clear hK K
        try simp only [Act.put, List.setIfInBounds_toArray, List.set_cons_zero, List.set_cons_succ]
        refine rg_next (i := 25) (l := #[true, true, true, true, true, true, true, true, true, true, true, true, true, true, true, true, true, true, true, true, true, true, true, true, true, true, true, true, false, false, false, false, false, false, false, false]) (fuel := 8) (by kernel_rfl) rfl (by kernel_rfl) (by kernel_rfl) (fun K hK => ?_)
        go_simp
        go_at_call 60
        refine (K25.out _ sx.out.1).mono ?_
        rintro e w19 ⟨v25, rfl, own, hb⟩
        obtain ⟨A25, c25, rfl⟩ := own_sl own
        have sx2 := Lib.hid (sx.out.row hb own)
        clear sx hb own
        have sx := sx2
        clear sx2
        first | (refine hK.out _ _ ?_ (fun hHeld => ?_)) | (go_wp2_with fail; refine hK.out _ _ ?_ (fun hHeld => ?_))
        · (try dsimp only); exact CE.out _ (sx.out.at_ x 27 #[.slice A n ca, .slice V a cv, .slice C b cc, .slice R c cr, .slice E m ce, .int .i64 bud] (by repeat (first | (with_reducible exact List.mem_cons_self) | apply List.mem_cons_of_mem)))
        clear hK K
        try simp only [Act.put, List.setIfInBounds_toArray, List.set_cons_zero, List.set_cons_succ]
        refine rg_next (i := 28) (l := #[true, true, true, true, true, true, true, true, true, true, true, true, true, true, true, true, true, true, true, true, true, true, true, true, true, true, true, true, true, false, false, false, false, false, false, false]) (fuel := 7) (by kernel_rfl) rfl (by kernel_rfl) (by kernel_rfl) (fun K hK => ?_)
        go_simp
        go_at_call 57
        refine (K28.out _ sx.out.1).mono ?_
        rintro e w20 ⟨rfl, hb⟩
        have sx2 := Lib.hid (sx.out.later hb)
        clear sx hb
        have sx := sx2
        clear sx2
        first | (refine hK.out _ _ ?_ (fun hHeld => ?_)) | (go_wp2_with fail; refine hK.out _ _ ?_ (fun hHeld => ?_))
        · (try dsimp only); exact CE.out _ (sx.out.at_ x 27 #[.slice A n ca, .slice V a cv, .slice C b cc, .slice R c cr, .slice E m ce, .int .i64 bud] (by repeat (first | (with_reducible exact List.mem_cons_self) | apply List.mem_cons_of_mem)))
        clear hK K
        try simp only [Act.put, List.setIfInBounds_toArray, List.set_cons_zero, List.set_cons_succ]
        refine rg_next (i := 29) (l := #[true, true, true, true, true, true, true, true, true, true, true, true, true, true, true, true, true, true, true, true, true, true, true, true, true, true, true, true, true, true, false, false, false, false, false, false]) (fuel := 6) (by kernel_rfl) rfl (by kernel_rfl) (by kernel_rfl) (fun K hK => ?_)
        go_simp
        skip
        first | (refine hK.out _ _ ?_ (fun hHeld => ?_)) | (go_wp2_with fail; refine hK.out _ _ ?_ (fun hHeld => ?_))
        · (try dsimp only); exact CE.out _ ((sx.out.make 9 #[.string ⟨#[98, 117, 100, 103, 101, 116]⟩, .string D2]).at_ x 27 #[.slice A n ca, .slice V a cv, .slice C b cc, .slice R c cr, .slice E m ce, .int .i64 bud] (by repeat (first | (with_reducible exact List.mem_cons_self) | apply List.mem_cons_of_mem)))
        clear hK K
        try simp only [Act.put, List.setIfInBounds_toArray, List.set_cons_zero, List.set_cons_succ]
        have sx2 := Lib.hid (sx.out.make 9 #[.string ⟨#[98, 117, 100, 103, 101, 116]⟩, .string D2])
        clear sx
        have sx := sx2
        clear sx2
        obtain ⟨g29, hg29⟩ : ∃ q, w20.heap.size = q := ⟨_, rfl⟩
        rw [hg29] at sx ⊢
        clear hg29
        generalize World.alloc w20 _ = w21 at *
        refine rg_next (i := 30) (l := #[true, true, true, true, true, true, true, true, true, true, true, true, true, true, true, true, true, true, true, true, true, true, true, true, true, true, true, true, true, true, true, false, false, false, false, false]) (fuel := 5) (by kernel_rfl) rfl (by kernel_rfl) (by kernel_rfl) (fun K hK => ?_)
        go_simp
        go_at_call 56
        refine (scline2_any (sx.out.at_ g29 9 #[.string ⟨#[98, 117, 100, 103, 101, 116]⟩, .string D2] (by repeat (first | (with_reducible exact List.mem_cons_self) | apply List.mem_cons_of_mem))) (by decide) HD2.out).mono ?_
        rw [HL2.out]
        rintro e w22 ⟨rfl, hb⟩
        have sx2 := Lib.hid (sx.out.later hb)
        clear sx hb
        have sx := sx2
        clear sx2
        first | (refine hK.out _ _ ?_ (fun hHeld => ?_)) | (go_wp2_with fail; refine hK.out _ _ ?_ (fun hHeld => ?_))
        · (try dsimp only); exact CE.out _ (sx.out.at_ x 27 #[.slice A n ca, .slice V a cv, .slice C b cc, .slice R c cr, .slice E m ce, .int .i64 bud] (by repeat (first | (with_reducible exact List.mem_cons_self) | apply List.mem_cons_of_mem)))
        clear hK K
        try simp only [Act.put, List.setIfInBounds_toArray, List.set_cons_zero, List.set_cons_succ]
        refine rg_next (i := 31) (l := #[true, true, true, true, true, true, true, true, true, true, true, true, true, true, true, true, true, true, true, true, true, true, true, true, true, true, true, true, true, true, true, true, false, false, false, false]) (fuel := 4) (by kernel_rfl) rfl (by kernel_rfl) (by kernel_rfl) (fun K hK => ?_)
        go_simp
        skip
        first | (refine hK.out _ _ ?_ (fun hHeld => ?_)) | (go_wp2_with fail; refine hK.out _ _ ?_ (fun hHeld => ?_))
        · (try dsimp only); exact CE.out _ ((sx.out.one L2).at_ x 27 #[.slice A n ca, .slice V a cv, .slice C b cc, .slice R c cr, .slice E m ce, .int .i64 bud] (by repeat (first | (with_reducible exact List.mem_cons_self) | apply List.mem_cons_of_mem)))
        clear hK K
        try simp only [Act.put, List.setIfInBounds_toArray, List.set_cons_zero, List.set_cons_succ]
        have sx2 := Lib.hid (sx.out.one L2)
        clear sx
        have sx := sx2
        clear sx2
        obtain ⟨g31, hg31⟩ : ∃ q, w22.heap.size = q := ⟨_, rfl⟩
        rw [hg31] at sx ⊢
        clear hg31
        generalize World.alloc w22 _ = w23 at *
        refine rg_next (i := 32) (l := #[true, true, true, true, true, true, true, true, true, true, true, true, true, true, true, true, true, true, true, true, true, true, true, true, true, true, true, true, true, true, true, true, true, false, false, false]) (fuel := 3) (by kernel_rfl) rfl (by kernel_rfl) (by kernel_rfl) (fun K hK => ?_)
        go_simp
        skip
        first | (refine hK.out _ _ ?_ (fun hHeld => ?_)) | (go_wp2_with fail; refine hK.out _ _ ?_ (fun hHeld => ?_))
        · (try dsimp only); exact CE.out _ ((sx.out.make 45 #[.slice (some ⟨g7, 0, none⟩) 1 1, .slice A10 I.length c10, .slice A14 F1.length c14, .slice A18 F2.length c18, .slice A22 F3.length c22, .slice A25 E1.length c25, .slice (some ⟨g31, 0, none⟩) 1 1]).at_ x 27 #[.slice A n ca, .slice V a cv, .slice C b cc, .slice R c cr, .slice E m ce, .int .i64 bud] (by repeat (first | (with_reducible exact List.mem_cons_self) | apply List.mem_cons_of_mem)))
        clear hK K
        try simp only [Act.put, List.setIfInBounds_toArray, List.set_cons_zero, List.set_cons_succ]
        have sx2 := Lib.hid (sx.out.make 45 #[.slice (some ⟨g7, 0, none⟩) 1 1, .slice A10 I.length c10, .slice A14 F1.length c14, .slice A18 F2.length c18, .slice A22 F3.length c22, .slice A25 E1.length c25, .slice (some ⟨g31, 0, none⟩) 1 1])
        clear sx
        have sx := sx2
        clear sx2
        obtain ⟨g32, hg32⟩ : ∃ q, w23.heap.size = q := ⟨_, rfl⟩
        rw [hg32] at sx ⊢
        clear hg32
        generalize World.alloc w23 _ = w24 at *
        have hps : ∀ p ∈ ([(.slice (some ⟨g7, 0, none⟩) 1 1, [L1]), (.slice A10 I.length c10, I), (.slice A14 F1.length c14, F1), (.slice A18 F2.length c18, F2), (.slice A22 F3.length c22, F3), (.slice A25 E1.length c25, E1), (.slice (some ⟨g31, 0, none⟩) 1 1, [L2])] : List (Value × List ByteArray)), w24.ownsRow w.heap.size 9 1 p.1 p.2.length (strV p.2) := fun p hp => by
          simp only [List.mem_cons, List.not_mem_nil, or_false] at hp
          rcases hp with rfl | rfl | rfl | rfl | rfl | rfl | rfl <;> exact sx.out.2.1 _ (by repeat (first | (with_reducible exact List.mem_cons_self) | apply List.mem_cons_of_mem))
        have HPS := Lib.hid hps
        clear hps
        refine rg_next (i := 33) (l := #[true, true, true, true, true, true, true, true, true, true, true, true, true, true, true, true, true, true, true, true, true, true, true, true, true, true, true, true, true, true, true, true, true, true, false, false]) (fuel := 2) (by kernel_rfl) rfl (by kernel_rfl) (by kernel_rfl) (fun K hK => ?_)
        go_simp
        go_at_call 55
        refine (sconcat_any g32 7 7 w.heap.size [(.slice (some ⟨g7, 0, none⟩) 1 1, [L1]), (.slice A10 I.length c10, I), (.slice A14 F1.length c14, F1), (.slice A18 F2.length c18, F2), (.slice A22 F3.length c22, F3), (.slice A25 E1.length c25, E1), (.slice (some ⟨g31, 0, none⟩) 1 1, [L2])] rfl (by decide) (by decide) _ (sx.out.at_ g32 45 #[.slice (some ⟨g7, 0, none⟩) 1 1, .slice A10 I.length c10, .slice A14 F1.length c14, .slice A18 F2.length c18, .slice A22 F3.length c22, .slice A25 E1.length c25, .slice (some ⟨g31, 0, none⟩) 1 1] (by repeat (first | (with_reducible exact List.mem_cons_self) | apply List.mem_cons_of_mem))) HPS.out (by rw [HFL.out]; exact HLN.out.1) (by rw [HFL.out]; have := HLN.out.2; omega)).mono ?_
        rw [HFL.out]
        rintro e w25 ⟨vC, rfl, own, hb⟩
        have OC := Lib.hid own
        have sx2 := Lib.hid (sx.out.later hb)
        clear sx hb own HPS
        have sx := sx2
        clear sx2
        first | (refine hK.out _ _ ?_ (fun hHeld => ?_)) | (go_wp2_with fail; refine hK.out _ _ ?_ (fun hHeld => ?_))
        · (try dsimp only); exact CE.out _ (sx.out.at_ x 27 #[.slice A n ca, .slice V a cv, .slice C b cc, .slice R c cr, .slice E m ce, .int .i64 bud] (by repeat (first | (with_reducible exact List.mem_cons_self) | apply List.mem_cons_of_mem)))
        clear hK K
        try simp only [Act.put, List.setIfInBounds_toArray, List.set_cons_zero, List.set_cons_succ]
        refine rg_next (i := 34) (l := #[true, true, true, true, true, true, true, true, true, true, true, true, true, true, true, true, true, true, true, true, true, true, true, true, true, true, true, true, true, true, true, true, true, true, true, false]) (fuel := 1) (by kernel_rfl) rfl (by kernel_rfl) (by kernel_rfl) (fun K hK => ?_)
        go_simp
        go_at_call 54
        refine (sccat_own OC.out HLN.out.1 (by have := HLN.out.2; omega) (by rw [← HTB.out]; exact HCS.out)).mono ?_
        rw [← HTB.out]
        rintro e w26 ⟨rfl, hb⟩
        have sx2 := Lib.hid (sx.out.later hb)
        clear sx hb
        have sx := sx2
        clear sx2
        first | (refine hK.out _ _ ?_ (fun hHeld => ?_)) | (go_wp2_with fail; refine hK.out _ _ ?_ (fun hHeld => ?_))
        · (try dsimp only); exact CE.out _ (sx.out.at_ x 27 #[.slice A n ca, .slice V a cv, .slice C b cc, .slice R c cr, .slice E m ce, .int .i64 bud] (by repeat (first | (with_reducible exact List.mem_cons_self) | apply List.mem_cons_of_mem)))
        clear hK K
        try simp only [Act.put, List.setIfInBounds_toArray, List.set_cons_zero, List.set_cons_succ]
        refine rg_take (i := 35) (d := some 5) (l := #[true, true, true, true, true, true, true, true, true, true, true, true, true, true, true, true, true, true, true, true, true, true, true, true, true, true, true, true, true, true, true, true, true, true, true, true]) (fuel := 0) (v := ?_) rfl (by kernel_rfl) (by kernel_rfl) (by kernel_rfl) (by kernel_rfl) (by kernel_rfl) (fun _ _ _ h => h) (by kernel_rfl) ?_ (by assumption) ?_
        rotate_left 1
        · (intro wS hSw; (try dsimp only at hSw); go_simp; try with_reducible rfl)
        try simp only [Act.put, List.setIfInBounds_toArray, List.set_cons_zero, List.set_cons_succ]
        refine wpAnyH_done (by kernel_rfl) ?_ _
        go_wp2_with fail
        go_meet
        case rel => exact ⟨rfl, sx.out.at_ (x + 1) 34 #[.int .i64 0, .int .i64 0] (by repeat (first | (with_reducible exact List.mem_cons_self) | apply List.mem_cons_of_mem)), sx.out.1⟩
      refine rg_step (i := 10) (l := #[true, true, true, true, true, true, true, false, true, true, true, true, true, true, false, true, true, true, false, true, true, true, false, true, true, false, true, true, false, false, false, false, false, false, false, false]) rfl (by kernel_rfl) (by kernel_rfl) ?_ ?_
      · intro K hK
        go_simp
        go_at_call 58
        refine (K10.out _ sx.out.1).mono ?_
        rintro e w27 ⟨v10, rfl, own, hb⟩
        obtain ⟨A10, c10, rfl⟩ := own_sl own
        have sx2 := Lib.hid (sx.out.row hb own)
        clear sx hb own
        have sx := sx2
        clear sx2
        first | (refine hK.out _ _ ?_ (fun hHeld => ?_)) | (go_wp2_with fail; refine hK.out _ _ ?_ (fun hHeld => ?_))
        · (try dsimp only); exact CE.out _ (sx.out.at_ x 27 #[.slice A n ca, .slice V a cv, .slice C b cc, .slice R c cr, .slice E m ce, .int .i64 bud] (by repeat (first | (with_reducible exact List.mem_cons_self) | apply List.mem_cons_of_mem)))
        clear hK K
        try simp only [Act.put, List.setIfInBounds_toArray, List.set_cons_zero, List.set_cons_succ]
        refine rg_of (rs := [7, 14]) (fuel := 12) (by kernel_rfl) rfl ?_
        refine rg_step (i := 7) (l := #[true, true, true, true, true, true, true, true, true, true, true, true, true, true, false, true, true, true, false, true, true, true, false, true, true, false, true, true, false, false, false, false, false, false, false, false]) rfl (by kernel_rfl) (by kernel_rfl) ?_ ?_
        · intro K hK
          go_simp
          skip
          first | (refine hK.out _ _ ?_ (fun hHeld => ?_)) | (go_wp2_with fail; refine hK.out _ _ ?_ (fun hHeld => ?_))
          · (try dsimp only); exact CE.out _ ((sx.out.one L1).at_ x 27 #[.slice A n ca, .slice V a cv, .slice C b cc, .slice R c cr, .slice E m ce, .int .i64 bud] (by repeat (first | (with_reducible exact List.mem_cons_self) | apply List.mem_cons_of_mem)))
          clear hK K
          try simp only [Act.put, List.setIfInBounds_toArray, List.set_cons_zero, List.set_cons_succ]
          have sx2 := Lib.hid (sx.out.one L1)
          clear sx
          have sx := sx2
          clear sx2
          obtain ⟨g7, hg7⟩ : ∃ q, w27.heap.size = q := ⟨_, rfl⟩
          rw [hg7] at sx ⊢
          clear hg7
          generalize World.alloc w27 _ = w28 at *
          refine rg_next (i := 14) (l := #[true, true, true, true, true, true, true, true, true, true, true, true, true, true, true, true, true, true, false, true, true, true, false, true, true, false, true, true, false, false, false, false, false, false, false, false]) (fuel := 11) (by kernel_rfl) rfl (by kernel_rfl) (by kernel_rfl) (fun K hK => ?_)
          go_simp
          go_at_call 59
          refine (K14.out _ sx.out.1).mono ?_
          rintro e w29 ⟨v14, rfl, own, hb⟩
          obtain ⟨A14, c14, rfl⟩ := own_sl own
          have sx2 := Lib.hid (sx.out.row hb own)
          clear sx hb own
          have sx := sx2
          clear sx2
          first | (refine hK.out _ _ ?_ (fun hHeld => ?_)) | (go_wp2_with fail; refine hK.out _ _ ?_ (fun hHeld => ?_))
          · (try dsimp only); exact CE.out _ (sx.out.at_ x 27 #[.slice A n ca, .slice V a cv, .slice C b cc, .slice R c cr, .slice E m ce, .int .i64 bud] (by repeat (first | (with_reducible exact List.mem_cons_self) | apply List.mem_cons_of_mem)))
          clear hK K
          try simp only [Act.put, List.setIfInBounds_toArray, List.set_cons_zero, List.set_cons_succ]
          refine rg_next (i := 18) (l := #[true, true, true, true, true, true, true, true, true, true, true, true, true, true, true, true, true, true, true, true, true, true, false, true, true, false, true, true, false, false, false, false, false, false, false, false]) (fuel := 10) (by kernel_rfl) rfl (by kernel_rfl) (by kernel_rfl) (fun K hK => ?_)
          go_simp
          go_at_call 59
          refine (K18.out _ sx.out.1).mono ?_
          rintro e w30 ⟨v18, rfl, own, hb⟩
          obtain ⟨A18, c18, rfl⟩ := own_sl own
          have sx2 := Lib.hid (sx.out.row hb own)
          clear sx hb own
          have sx := sx2
          clear sx2
          first | (refine hK.out _ _ ?_ (fun hHeld => ?_)) | (go_wp2_with fail; refine hK.out _ _ ?_ (fun hHeld => ?_))
          · (try dsimp only); exact CE.out _ (sx.out.at_ x 27 #[.slice A n ca, .slice V a cv, .slice C b cc, .slice R c cr, .slice E m ce, .int .i64 bud] (by repeat (first | (with_reducible exact List.mem_cons_self) | apply List.mem_cons_of_mem)))
          clear hK K
          try simp only [Act.put, List.setIfInBounds_toArray, List.set_cons_zero, List.set_cons_succ]
          refine rg_next (i := 22) (l := #[true, true, true, true, true, true, true, true, true, true, true, true, true, true, true, true, true, true, true, true, true, true, true, true, true, false, true, true, false, false, false, false, false, false, false, false]) (fuel := 9) (by kernel_rfl) rfl (by kernel_rfl) (by kernel_rfl) (fun K hK => ?_)
          go_simp
          go_at_call 59
          refine (K22.out _ sx.out.1).mono ?_
          rintro e w31 ⟨v22, rfl, own, hb⟩
          obtain ⟨A22, c22, rfl⟩ := own_sl own
          have sx2 := Lib.hid (sx.out.row hb own)
          clear sx hb own
          have sx := sx2
          clear sx2
          first | (refine hK.out _ _ ?_ (fun hHeld => ?_)) | (go_wp2_with fail; refine hK.out _ _ ?_ (fun hHeld => ?_))
          · (try dsimp only); exact CE.out _ (sx.out.at_ x 27 #[.slice A n ca, .slice V a cv, .slice C b cc, .slice R c cr, .slice E m ce, .int .i64 bud] (by repeat (first | (with_reducible exact List.mem_cons_self) | apply List.mem_cons_of_mem)))
          clear hK K
          try simp only [Act.put, List.setIfInBounds_toArray, List.set_cons_zero, List.set_cons_succ]
          refine rg_next (i := 25) (l := #[true, true, true, true, true, true, true, true, true, true, true, true, true, true, true, true, true, true, true, true, true, true, true, true, true, true, true, true, false, false, false, false, false, false, false, false]) (fuel := 8) (by kernel_rfl) rfl (by kernel_rfl) (by kernel_rfl) (fun K hK => ?_)
          go_simp
          go_at_call 60
          refine (K25.out _ sx.out.1).mono ?_
          rintro e w32 ⟨v25, rfl, own, hb⟩
          obtain ⟨A25, c25, rfl⟩ := own_sl own
          have sx2 := Lib.hid (sx.out.row hb own)
          clear sx hb own
          have sx := sx2
          clear sx2
          first | (refine hK.out _ _ ?_ (fun hHeld => ?_)) | (go_wp2_with fail; refine hK.out _ _ ?_ (fun hHeld => ?_))
          · (try dsimp only); exact CE.out _ (sx.out.at_ x 27 #[.slice A n ca, .slice V a cv, .slice C b cc, .slice R c cr, .slice E m ce, .int .i64 bud] (by repeat (first | (with_reducible exact List.mem_cons_self) | apply List.mem_cons_of_mem)))
          clear hK K
          try simp only [Act.put, List.setIfInBounds_toArray, List.set_cons_zero, List.set_cons_succ]
          refine rg_next (i := 28) (l := #[true, true, true, true, true, true, true, true, true, true, true, true, true, true, true, true, true, true, true, true, true, true, true, true, true, true, true, true, true, false, false, false, false, false, false, false]) (fuel := 7) (by kernel_rfl) rfl (by kernel_rfl) (by kernel_rfl) (fun K hK => ?_)
          go_simp
          go_at_call 57
          refine (K28.out _ sx.out.1).mono ?_
          rintro e w33 ⟨rfl, hb⟩
          have sx2 := Lib.hid (sx.out.later hb)
          clear sx hb
          have sx := sx2
          clear sx2
          first | (refine hK.out _ _ ?_ (fun hHeld => ?_)) | (go_wp2_with fail; refine hK.out _ _ ?_ (fun hHeld => ?_))
          · (try dsimp only); exact CE.out _ (sx.out.at_ x 27 #[.slice A n ca, .slice V a cv, .slice C b cc, .slice R c cr, .slice E m ce, .int .i64 bud] (by repeat (first | (with_reducible exact List.mem_cons_self) | apply List.mem_cons_of_mem)))
          clear hK K
          try simp only [Act.put, List.setIfInBounds_toArray, List.set_cons_zero, List.set_cons_succ]
          refine rg_next (i := 29) (l := #[true, true, true, true, true, true, true, true, true, true, true, true, true, true, true, true, true, true, true, true, true, true, true, true, true, true, true, true, true, true, false, false, false, false, false, false]) (fuel := 6) (by kernel_rfl) rfl (by kernel_rfl) (by kernel_rfl) (fun K hK => ?_)
          go_simp
          skip
          first | (refine hK.out _ _ ?_ (fun hHeld => ?_)) | (go_wp2_with fail; refine hK.out _ _ ?_ (fun hHeld => ?_))
          · (try dsimp only); exact CE.out _ ((sx.out.make 9 #[.string ⟨#[98, 117, 100, 103, 101, 116]⟩, .string D2]).at_ x 27 #[.slice A n ca, .slice V a cv, .slice C b cc, .slice R c cr, .slice E m ce, .int .i64 bud] (by repeat (first | (with_reducible exact List.mem_cons_self) | apply List.mem_cons_of_mem)))
          clear hK K
          try simp only [Act.put, List.setIfInBounds_toArray, List.set_cons_zero, List.set_cons_succ]
          have sx2 := Lib.hid (sx.out.make 9 #[.string ⟨#[98, 117, 100, 103, 101, 116]⟩, .string D2])
          clear sx
          have sx := sx2
          clear sx2
          obtain ⟨g29, hg29⟩ : ∃ q, w33.heap.size = q := ⟨_, rfl⟩
          rw [hg29] at sx ⊢
          clear hg29
          generalize World.alloc w33 _ = w34 at *
          refine rg_next (i := 30) (l := #[true, true, true, true, true, true, true, true, true, true, true, true, true, true, true, true, true, true, true, true, true, true, true, true, true, true, true, true, true, true, true, false, false, false, false, false]) (fuel := 5) (by kernel_rfl) rfl (by kernel_rfl) (by kernel_rfl) (fun K hK => ?_)
          go_simp
          go_at_call 56
          refine (scline2_any (sx.out.at_ g29 9 #[.string ⟨#[98, 117, 100, 103, 101, 116]⟩, .string D2] (by repeat (first | (with_reducible exact List.mem_cons_self) | apply List.mem_cons_of_mem))) (by decide) HD2.out).mono ?_
          rw [HL2.out]
          rintro e w35 ⟨rfl, hb⟩
          have sx2 := Lib.hid (sx.out.later hb)
          clear sx hb
          have sx := sx2
          clear sx2
          first | (refine hK.out _ _ ?_ (fun hHeld => ?_)) | (go_wp2_with fail; refine hK.out _ _ ?_ (fun hHeld => ?_))
          · (try dsimp only); exact CE.out _ (sx.out.at_ x 27 #[.slice A n ca, .slice V a cv, .slice C b cc, .slice R c cr, .slice E m ce, .int .i64 bud] (by repeat (first | (with_reducible exact List.mem_cons_self) | apply List.mem_cons_of_mem)))
          clear hK K
          try simp only [Act.put, List.setIfInBounds_toArray, List.set_cons_zero, List.set_cons_succ]
          refine rg_next (i := 31) (l := #[true, true, true, true, true, true, true, true, true, true, true, true, true, true, true, true, true, true, true, true, true, true, true, true, true, true, true, true, true, true, true, true, false, false, false, false]) (fuel := 4) (by kernel_rfl) rfl (by kernel_rfl) (by kernel_rfl) (fun K hK => ?_)
          go_simp
          skip
          first | (refine hK.out _ _ ?_ (fun hHeld => ?_)) | (go_wp2_with fail; refine hK.out _ _ ?_ (fun hHeld => ?_))
          · (try dsimp only); exact CE.out _ ((sx.out.one L2).at_ x 27 #[.slice A n ca, .slice V a cv, .slice C b cc, .slice R c cr, .slice E m ce, .int .i64 bud] (by repeat (first | (with_reducible exact List.mem_cons_self) | apply List.mem_cons_of_mem)))
          clear hK K
          try simp only [Act.put, List.setIfInBounds_toArray, List.set_cons_zero, List.set_cons_succ]
          have sx2 := Lib.hid (sx.out.one L2)
          clear sx
          have sx := sx2
          clear sx2
          obtain ⟨g31, hg31⟩ : ∃ q, w35.heap.size = q := ⟨_, rfl⟩
          rw [hg31] at sx ⊢
          clear hg31
          generalize World.alloc w35 _ = w36 at *
          refine rg_next (i := 32) (l := #[true, true, true, true, true, true, true, true, true, true, true, true, true, true, true, true, true, true, true, true, true, true, true, true, true, true, true, true, true, true, true, true, true, false, false, false]) (fuel := 3) (by kernel_rfl) rfl (by kernel_rfl) (by kernel_rfl) (fun K hK => ?_)
          go_simp
          skip
          first | (refine hK.out _ _ ?_ (fun hHeld => ?_)) | (go_wp2_with fail; refine hK.out _ _ ?_ (fun hHeld => ?_))
          · (try dsimp only); exact CE.out _ ((sx.out.make 45 #[.slice (some ⟨g7, 0, none⟩) 1 1, .slice A10 I.length c10, .slice A14 F1.length c14, .slice A18 F2.length c18, .slice A22 F3.length c22, .slice A25 E1.length c25, .slice (some ⟨g31, 0, none⟩) 1 1]).at_ x 27 #[.slice A n ca, .slice V a cv, .slice C b cc, .slice R c cr, .slice E m ce, .int .i64 bud] (by repeat (first | (with_reducible exact List.mem_cons_self) | apply List.mem_cons_of_mem)))
          clear hK K
          try simp only [Act.put, List.setIfInBounds_toArray, List.set_cons_zero, List.set_cons_succ]
          have sx2 := Lib.hid (sx.out.make 45 #[.slice (some ⟨g7, 0, none⟩) 1 1, .slice A10 I.length c10, .slice A14 F1.length c14, .slice A18 F2.length c18, .slice A22 F3.length c22, .slice A25 E1.length c25, .slice (some ⟨g31, 0, none⟩) 1 1])
          clear sx
          have sx := sx2
          clear sx2
          obtain ⟨g32, hg32⟩ : ∃ q, w36.heap.size = q := ⟨_, rfl⟩
          rw [hg32] at sx ⊢
          clear hg32
          generalize World.alloc w36 _ = w37 at *
          have hps : ∀ p ∈ ([(.slice (some ⟨g7, 0, none⟩) 1 1, [L1]), (.slice A10 I.length c10, I), (.slice A14 F1.length c14, F1), (.slice A18 F2.length c18, F2), (.slice A22 F3.length c22, F3), (.slice A25 E1.length c25, E1), (.slice (some ⟨g31, 0, none⟩) 1 1, [L2])] : List (Value × List ByteArray)), w37.ownsRow w.heap.size 9 1 p.1 p.2.length (strV p.2) := fun p hp => by
            simp only [List.mem_cons, List.not_mem_nil, or_false] at hp
            rcases hp with rfl | rfl | rfl | rfl | rfl | rfl | rfl <;> exact sx.out.2.1 _ (by repeat (first | (with_reducible exact List.mem_cons_self) | apply List.mem_cons_of_mem))
          have HPS := Lib.hid hps
          clear hps
          refine rg_next (i := 33) (l := #[true, true, true, true, true, true, true, true, true, true, true, true, true, true, true, true, true, true, true, true, true, true, true, true, true, true, true, true, true, true, true, true, true, true, false, false]) (fuel := 2) (by kernel_rfl) rfl (by kernel_rfl) (by kernel_rfl) (fun K hK => ?_)
          go_simp
          go_at_call 55
          refine (sconcat_any g32 7 7 w.heap.size [(.slice (some ⟨g7, 0, none⟩) 1 1, [L1]), (.slice A10 I.length c10, I), (.slice A14 F1.length c14, F1), (.slice A18 F2.length c18, F2), (.slice A22 F3.length c22, F3), (.slice A25 E1.length c25, E1), (.slice (some ⟨g31, 0, none⟩) 1 1, [L2])] rfl (by decide) (by decide) _ (sx.out.at_ g32 45 #[.slice (some ⟨g7, 0, none⟩) 1 1, .slice A10 I.length c10, .slice A14 F1.length c14, .slice A18 F2.length c18, .slice A22 F3.length c22, .slice A25 E1.length c25, .slice (some ⟨g31, 0, none⟩) 1 1] (by repeat (first | (with_reducible exact List.mem_cons_self) | apply List.mem_cons_of_mem))) HPS.out (by rw [HFL.out]; exact HLN.out.1) (by rw [HFL.out]; have := HLN.out.2; omega)).mono ?_
          rw [HFL.out]
          rintro e w38 ⟨vC, rfl, own, hb⟩
          have OC := Lib.hid own
          have sx2 := Lib.hid (sx.out.later hb)
          clear sx hb own HPS
          have sx := sx2
          clear sx2
          first | (refine hK.out _ _ ?_ (fun hHeld => ?_)) | (go_wp2_with fail; refine hK.out _ _ ?_ (fun hHeld => ?_))
          · (try dsimp only); exact CE.out _ (sx.out.at_ x 27 #[.slice A n ca, .slice V a cv, .slice C b cc, .slice R c cr, .slice E m ce, .int .i64 bud] (by repeat (first | (with_reducible exact List.mem_cons_self) | apply List.mem_cons_of_mem)))
          clear hK K
          try simp only [Act.put, List.setIfInBounds_toArray, List.set_cons_zero, List.set_cons_succ]
          refine rg_next (i := 34) (l := #[true, true, true, true, true, true, true, true, true, true, true, true, true, true, true, true, true, true, true, true, true, true, true, true, true, true, true, true, true, true, true, true, true, true, true, false]) (fuel := 1) (by kernel_rfl) rfl (by kernel_rfl) (by kernel_rfl) (fun K hK => ?_)
          go_simp
          go_at_call 54
          refine (sccat_own OC.out HLN.out.1 (by have := HLN.out.2; omega) (by rw [← HTB.out]; exact HCS.out)).mono ?_
          rw [← HTB.out]
          rintro e w39 ⟨rfl, hb⟩
          have sx2 := Lib.hid (sx.out.later hb)
          clear sx hb
          have sx := sx2
          clear sx2
          first | (refine hK.out _ _ ?_ (fun hHeld => ?_)) | (go_wp2_with fail; refine hK.out _ _ ?_ (fun hHeld => ?_))
          · (try dsimp only); exact CE.out _ (sx.out.at_ x 27 #[.slice A n ca, .slice V a cv, .slice C b cc, .slice R c cr, .slice E m ce, .int .i64 bud] (by repeat (first | (with_reducible exact List.mem_cons_self) | apply List.mem_cons_of_mem)))
          clear hK K
          try simp only [Act.put, List.setIfInBounds_toArray, List.set_cons_zero, List.set_cons_succ]
          refine rg_take (i := 35) (d := some 5) (l := #[true, true, true, true, true, true, true, true, true, true, true, true, true, true, true, true, true, true, true, true, true, true, true, true, true, true, true, true, true, true, true, true, true, true, true, true]) (fuel := 0) (v := ?_) rfl (by kernel_rfl) (by kernel_rfl) (by kernel_rfl) (by kernel_rfl) (by kernel_rfl) (fun _ _ _ h => h) (by kernel_rfl) ?_ (by assumption) ?_
          rotate_left 1
          · (intro wS hSw; (try dsimp only at hSw); go_simp; try with_reducible rfl)
          try simp only [Act.put, List.setIfInBounds_toArray, List.set_cons_zero, List.set_cons_succ]
          refine wpAnyH_done (by kernel_rfl) ?_ _
          go_wp2_with fail
          go_meet
          case rel => exact ⟨rfl, sx.out.at_ (x + 1) 34 #[.int .i64 0, .int .i64 0] (by repeat (first | (with_reducible exact List.mem_cons_self) | apply List.mem_cons_of_mem)), sx.out.1⟩
        refine rg_step (i := 14) (l := #[true, true, true, true, true, true, true, false, true, true, true, true, true, true, true, true, true, true, false, true, true, true, false, true, true, false, true, true, false, false, false, false, false, false, false, false]) rfl (by kernel_rfl) (by kernel_rfl) ?_ ?_
        · intro K hK
          go_simp
          go_at_call 59
          refine (K14.out _ sx.out.1).mono ?_
          rintro e w40 ⟨v14, rfl, own, hb⟩
          obtain ⟨A14, c14, rfl⟩ := own_sl own
          have sx2 := Lib.hid (sx.out.row hb own)
          clear sx hb own
          have sx := sx2
          clear sx2
          first | (refine hK.out _ _ ?_ (fun hHeld => ?_)) | (go_wp2_with fail; refine hK.out _ _ ?_ (fun hHeld => ?_))
          · (try dsimp only); exact CE.out _ (sx.out.at_ x 27 #[.slice A n ca, .slice V a cv, .slice C b cc, .slice R c cr, .slice E m ce, .int .i64 bud] (by repeat (first | (with_reducible exact List.mem_cons_self) | apply List.mem_cons_of_mem)))
          clear hK K
          try simp only [Act.put, List.setIfInBounds_toArray, List.set_cons_zero, List.set_cons_succ]
          refine rg_of (rs := [7, 18]) (fuel := 11) (by kernel_rfl) rfl ?_
          refine rg_step (i := 7) (l := #[true, true, true, true, true, true, true, true, true, true, true, true, true, true, true, true, true, true, false, true, true, true, false, true, true, false, true, true, false, false, false, false, false, false, false, false]) rfl (by kernel_rfl) (by kernel_rfl) ?_ ?_
          · intro K hK
            go_simp
            skip
            first | (refine hK.out _ _ ?_ (fun hHeld => ?_)) | (go_wp2_with fail; refine hK.out _ _ ?_ (fun hHeld => ?_))
            · (try dsimp only); exact CE.out _ ((sx.out.one L1).at_ x 27 #[.slice A n ca, .slice V a cv, .slice C b cc, .slice R c cr, .slice E m ce, .int .i64 bud] (by repeat (first | (with_reducible exact List.mem_cons_self) | apply List.mem_cons_of_mem)))
            clear hK K
            try simp only [Act.put, List.setIfInBounds_toArray, List.set_cons_zero, List.set_cons_succ]
            have sx2 := Lib.hid (sx.out.one L1)
            clear sx
            have sx := sx2
            clear sx2
            obtain ⟨g7, hg7⟩ : ∃ q, w40.heap.size = q := ⟨_, rfl⟩
            rw [hg7] at sx ⊢
            clear hg7
            generalize World.alloc w40 _ = w41 at *
            refine rg_next (i := 18) (l := #[true, true, true, true, true, true, true, true, true, true, true, true, true, true, true, true, true, true, true, true, true, true, false, true, true, false, true, true, false, false, false, false, false, false, false, false]) (fuel := 10) (by kernel_rfl) rfl (by kernel_rfl) (by kernel_rfl) (fun K hK => ?_)
            go_simp
            go_at_call 59
            refine (K18.out _ sx.out.1).mono ?_
            rintro e w42 ⟨v18, rfl, own, hb⟩
            obtain ⟨A18, c18, rfl⟩ := own_sl own
            have sx2 := Lib.hid (sx.out.row hb own)
            clear sx hb own
            have sx := sx2
            clear sx2
            first | (refine hK.out _ _ ?_ (fun hHeld => ?_)) | (go_wp2_with fail; refine hK.out _ _ ?_ (fun hHeld => ?_))
            · (try dsimp only); exact CE.out _ (sx.out.at_ x 27 #[.slice A n ca, .slice V a cv, .slice C b cc, .slice R c cr, .slice E m ce, .int .i64 bud] (by repeat (first | (with_reducible exact List.mem_cons_self) | apply List.mem_cons_of_mem)))
            clear hK K
            try simp only [Act.put, List.setIfInBounds_toArray, List.set_cons_zero, List.set_cons_succ]
            refine rg_next (i := 22) (l := #[true, true, true, true, true, true, true, true, true, true, true, true, true, true, true, true, true, true, true, true, true, true, true, true, true, false, true, true, false, false, false, false, false, false, false, false]) (fuel := 9) (by kernel_rfl) rfl (by kernel_rfl) (by kernel_rfl) (fun K hK => ?_)
            go_simp
            go_at_call 59
            refine (K22.out _ sx.out.1).mono ?_
            rintro e w43 ⟨v22, rfl, own, hb⟩
            obtain ⟨A22, c22, rfl⟩ := own_sl own
            have sx2 := Lib.hid (sx.out.row hb own)
            clear sx hb own
            have sx := sx2
            clear sx2
            first | (refine hK.out _ _ ?_ (fun hHeld => ?_)) | (go_wp2_with fail; refine hK.out _ _ ?_ (fun hHeld => ?_))
            · (try dsimp only); exact CE.out _ (sx.out.at_ x 27 #[.slice A n ca, .slice V a cv, .slice C b cc, .slice R c cr, .slice E m ce, .int .i64 bud] (by repeat (first | (with_reducible exact List.mem_cons_self) | apply List.mem_cons_of_mem)))
            clear hK K
            try simp only [Act.put, List.setIfInBounds_toArray, List.set_cons_zero, List.set_cons_succ]
            refine rg_next (i := 25) (l := #[true, true, true, true, true, true, true, true, true, true, true, true, true, true, true, true, true, true, true, true, true, true, true, true, true, true, true, true, false, false, false, false, false, false, false, false]) (fuel := 8) (by kernel_rfl) rfl (by kernel_rfl) (by kernel_rfl) (fun K hK => ?_)
            go_simp
            go_at_call 60
            refine (K25.out _ sx.out.1).mono ?_
            rintro e w44 ⟨v25, rfl, own, hb⟩
            obtain ⟨A25, c25, rfl⟩ := own_sl own
            have sx2 := Lib.hid (sx.out.row hb own)
            clear sx hb own
            have sx := sx2
            clear sx2
            first | (refine hK.out _ _ ?_ (fun hHeld => ?_)) | (go_wp2_with fail; refine hK.out _ _ ?_ (fun hHeld => ?_))
            · (try dsimp only); exact CE.out _ (sx.out.at_ x 27 #[.slice A n ca, .slice V a cv, .slice C b cc, .slice R c cr, .slice E m ce, .int .i64 bud] (by repeat (first | (with_reducible exact List.mem_cons_self) | apply List.mem_cons_of_mem)))
            clear hK K
            try simp only [Act.put, List.setIfInBounds_toArray, List.set_cons_zero, List.set_cons_succ]
            refine rg_next (i := 28) (l := #[true, true, true, true, true, true, true, true, true, true, true, true, true, true, true, true, true, true, true, true, true, true, true, true, true, true, true, true, true, false, false, false, false, false, false, false]) (fuel := 7) (by kernel_rfl) rfl (by kernel_rfl) (by kernel_rfl) (fun K hK => ?_)
            go_simp
            go_at_call 57
            refine (K28.out _ sx.out.1).mono ?_
            rintro e w45 ⟨rfl, hb⟩
            have sx2 := Lib.hid (sx.out.later hb)
            clear sx hb
            have sx := sx2
            clear sx2
            first | (refine hK.out _ _ ?_ (fun hHeld => ?_)) | (go_wp2_with fail; refine hK.out _ _ ?_ (fun hHeld => ?_))
            · (try dsimp only); exact CE.out _ (sx.out.at_ x 27 #[.slice A n ca, .slice V a cv, .slice C b cc, .slice R c cr, .slice E m ce, .int .i64 bud] (by repeat (first | (with_reducible exact List.mem_cons_self) | apply List.mem_cons_of_mem)))
            clear hK K
            try simp only [Act.put, List.setIfInBounds_toArray, List.set_cons_zero, List.set_cons_succ]
            refine rg_next (i := 29) (l := #[true, true, true, true, true, true, true, true, true, true, true, true, true, true, true, true, true, true, true, true, true, true, true, true, true, true, true, true, true, true, false, false, false, false, false, false]) (fuel := 6) (by kernel_rfl) rfl (by kernel_rfl) (by kernel_rfl) (fun K hK => ?_)
            go_simp
            skip
            first | (refine hK.out _ _ ?_ (fun hHeld => ?_)) | (go_wp2_with fail; refine hK.out _ _ ?_ (fun hHeld => ?_))
            · (try dsimp only); exact CE.out _ ((sx.out.make 9 #[.string ⟨#[98, 117, 100, 103, 101, 116]⟩, .string D2]).at_ x 27 #[.slice A n ca, .slice V a cv, .slice C b cc, .slice R c cr, .slice E m ce, .int .i64 bud] (by repeat (first | (with_reducible exact List.mem_cons_self) | apply List.mem_cons_of_mem)))
            clear hK K
            try simp only [Act.put, List.setIfInBounds_toArray, List.set_cons_zero, List.set_cons_succ]
            have sx2 := Lib.hid (sx.out.make 9 #[.string ⟨#[98, 117, 100, 103, 101, 116]⟩, .string D2])
            clear sx
            have sx := sx2
            clear sx2
            obtain ⟨g29, hg29⟩ : ∃ q, w45.heap.size = q := ⟨_, rfl⟩
            rw [hg29] at sx ⊢
            clear hg29
            generalize World.alloc w45 _ = w46 at *
            refine rg_next (i := 30) (l := #[true, true, true, true, true, true, true, true, true, true, true, true, true, true, true, true, true, true, true, true, true, true, true, true, true, true, true, true, true, true, true, false, false, false, false, false]) (fuel := 5) (by kernel_rfl) rfl (by kernel_rfl) (by kernel_rfl) (fun K hK => ?_)
            go_simp
            go_at_call 56
            refine (scline2_any (sx.out.at_ g29 9 #[.string ⟨#[98, 117, 100, 103, 101, 116]⟩, .string D2] (by repeat (first | (with_reducible exact List.mem_cons_self) | apply List.mem_cons_of_mem))) (by decide) HD2.out).mono ?_
            rw [HL2.out]
            rintro e w47 ⟨rfl, hb⟩
            have sx2 := Lib.hid (sx.out.later hb)
            clear sx hb
            have sx := sx2
            clear sx2
            first | (refine hK.out _ _ ?_ (fun hHeld => ?_)) | (go_wp2_with fail; refine hK.out _ _ ?_ (fun hHeld => ?_))
            · (try dsimp only); exact CE.out _ (sx.out.at_ x 27 #[.slice A n ca, .slice V a cv, .slice C b cc, .slice R c cr, .slice E m ce, .int .i64 bud] (by repeat (first | (with_reducible exact List.mem_cons_self) | apply List.mem_cons_of_mem)))
            clear hK K
            try simp only [Act.put, List.setIfInBounds_toArray, List.set_cons_zero, List.set_cons_succ]
            refine rg_next (i := 31) (l := #[true, true, true, true, true, true, true, true, true, true, true, true, true, true, true, true, true, true, true, true, true, true, true, true, true, true, true, true, true, true, true, true, false, false, false, false]) (fuel := 4) (by kernel_rfl) rfl (by kernel_rfl) (by kernel_rfl) (fun K hK => ?_)
            go_simp
            skip
            first | (refine hK.out _ _ ?_ (fun hHeld => ?_)) | (go_wp2_with fail; refine hK.out _ _ ?_ (fun hHeld => ?_))
            · (try dsimp only); exact CE.out _ ((sx.out.one L2).at_ x 27 #[.slice A n ca, .slice V a cv, .slice C b cc, .slice R c cr, .slice E m ce, .int .i64 bud] (by repeat (first | (with_reducible exact List.mem_cons_self) | apply List.mem_cons_of_mem)))
            clear hK K
            try simp only [Act.put, List.setIfInBounds_toArray, List.set_cons_zero, List.set_cons_succ]
            have sx2 := Lib.hid (sx.out.one L2)
            clear sx
            have sx := sx2
            clear sx2
            obtain ⟨g31, hg31⟩ : ∃ q, w47.heap.size = q := ⟨_, rfl⟩
            rw [hg31] at sx ⊢
            clear hg31
            generalize World.alloc w47 _ = w48 at *
            refine rg_next (i := 32) (l := #[true, true, true, true, true, true, true, true, true, true, true, true, true, true, true, true, true, true, true, true, true, true, true, true, true, true, true, true, true, true, true, true, true, false, false, false]) (fuel := 3) (by kernel_rfl) rfl (by kernel_rfl) (by kernel_rfl) (fun K hK => ?_)
            go_simp
            skip
            first | (refine hK.out _ _ ?_ (fun hHeld => ?_)) | (go_wp2_with fail; refine hK.out _ _ ?_ (fun hHeld => ?_))
            · (try dsimp only); exact CE.out _ ((sx.out.make 45 #[.slice (some ⟨g7, 0, none⟩) 1 1, .slice A10 I.length c10, .slice A14 F1.length c14, .slice A18 F2.length c18, .slice A22 F3.length c22, .slice A25 E1.length c25, .slice (some ⟨g31, 0, none⟩) 1 1]).at_ x 27 #[.slice A n ca, .slice V a cv, .slice C b cc, .slice R c cr, .slice E m ce, .int .i64 bud] (by repeat (first | (with_reducible exact List.mem_cons_self) | apply List.mem_cons_of_mem)))
            clear hK K
            try simp only [Act.put, List.setIfInBounds_toArray, List.set_cons_zero, List.set_cons_succ]
            have sx2 := Lib.hid (sx.out.make 45 #[.slice (some ⟨g7, 0, none⟩) 1 1, .slice A10 I.length c10, .slice A14 F1.length c14, .slice A18 F2.length c18, .slice A22 F3.length c22, .slice A25 E1.length c25, .slice (some ⟨g31, 0, none⟩) 1 1])
            clear sx
            have sx := sx2
            clear sx2
            obtain ⟨g32, hg32⟩ : ∃ q, w48.heap.size = q := ⟨_, rfl⟩
            rw [hg32] at sx ⊢
            clear hg32
            generalize World.alloc w48 _ = w49 at *
            have hps : ∀ p ∈ ([(.slice (some ⟨g7, 0, none⟩) 1 1, [L1]), (.slice A10 I.length c10, I), (.slice A14 F1.length c14, F1), (.slice A18 F2.length c18, F2), (.slice A22 F3.length c22, F3), (.slice A25 E1.length c25, E1), (.slice (some ⟨g31, 0, none⟩) 1 1, [L2])] : List (Value × List ByteArray)), w49.ownsRow w.heap.size 9 1 p.1 p.2.length (strV p.2) := fun p hp => by
              simp only [List.mem_cons, List.not_mem_nil, or_false] at hp
              rcases hp with rfl | rfl | rfl | rfl | rfl | rfl | rfl <;> exact sx.out.2.1 _ (by repeat (first | (with_reducible exact List.mem_cons_self) | apply List.mem_cons_of_mem))
            have HPS := Lib.hid hps
            clear hps
            refine rg_next (i := 33) (l := #[true, true, true, true, true, true, true, true, true, true, true, true, true, true, true, true, true, true, true, true, true, true, true, true, true, true, true, true, true, true, true, true, true, true, false, false]) (fuel := 2) (by kernel_rfl) rfl (by kernel_rfl) (by kernel_rfl) (fun K hK => ?_)
            go_simp
            go_at_call 55
            refine (sconcat_any g32 7 7 w.heap.size [(.slice (some ⟨g7, 0, none⟩) 1 1, [L1]), (.slice A10 I.length c10, I), (.slice A14 F1.length c14, F1), (.slice A18 F2.length c18, F2), (.slice A22 F3.length c22, F3), (.slice A25 E1.length c25, E1), (.slice (some ⟨g31, 0, none⟩) 1 1, [L2])] rfl (by decide) (by decide) _ (sx.out.at_ g32 45 #[.slice (some ⟨g7, 0, none⟩) 1 1, .slice A10 I.length c10, .slice A14 F1.length c14, .slice A18 F2.length c18, .slice A22 F3.length c22, .slice A25 E1.length c25, .slice (some ⟨g31, 0, none⟩) 1 1] (by repeat (first | (with_reducible exact List.mem_cons_self) | apply List.mem_cons_of_mem))) HPS.out (by rw [HFL.out]; exact HLN.out.1) (by rw [HFL.out]; have := HLN.out.2; omega)).mono ?_
            rw [HFL.out]
            rintro e w50 ⟨vC, rfl, own, hb⟩
            have OC := Lib.hid own
            have sx2 := Lib.hid (sx.out.later hb)
            clear sx hb own HPS
            have sx := sx2
            clear sx2
            first | (refine hK.out _ _ ?_ (fun hHeld => ?_)) | (go_wp2_with fail; refine hK.out _ _ ?_ (fun hHeld => ?_))
            · (try dsimp only); exact CE.out _ (sx.out.at_ x 27 #[.slice A n ca, .slice V a cv, .slice C b cc, .slice R c cr, .slice E m ce, .int .i64 bud] (by repeat (first | (with_reducible exact List.mem_cons_self) | apply List.mem_cons_of_mem)))
            clear hK K
            try simp only [Act.put, List.setIfInBounds_toArray, List.set_cons_zero, List.set_cons_succ]
            refine rg_next (i := 34) (l := #[true, true, true, true, true, true, true, true, true, true, true, true, true, true, true, true, true, true, true, true, true, true, true, true, true, true, true, true, true, true, true, true, true, true, true, false]) (fuel := 1) (by kernel_rfl) rfl (by kernel_rfl) (by kernel_rfl) (fun K hK => ?_)
            go_simp
            go_at_call 54
            refine (sccat_own OC.out HLN.out.1 (by have := HLN.out.2; omega) (by rw [← HTB.out]; exact HCS.out)).mono ?_
            rw [← HTB.out]
            rintro e w51 ⟨rfl, hb⟩
            have sx2 := Lib.hid (sx.out.later hb)
            clear sx hb
            have sx := sx2
            clear sx2
            first | (refine hK.out _ _ ?_ (fun hHeld => ?_)) | (go_wp2_with fail; refine hK.out _ _ ?_ (fun hHeld => ?_))
            · (try dsimp only); exact CE.out _ (sx.out.at_ x 27 #[.slice A n ca, .slice V a cv, .slice C b cc, .slice R c cr, .slice E m ce, .int .i64 bud] (by repeat (first | (with_reducible exact List.mem_cons_self) | apply List.mem_cons_of_mem)))
            clear hK K
            try simp only [Act.put, List.setIfInBounds_toArray, List.set_cons_zero, List.set_cons_succ]
            refine rg_take (i := 35) (d := some 5) (l := #[true, true, true, true, true, true, true, true, true, true, true, true, true, true, true, true, true, true, true, true, true, true, true, true, true, true, true, true, true, true, true, true, true, true, true, true]) (fuel := 0) (v := ?_) rfl (by kernel_rfl) (by kernel_rfl) (by kernel_rfl) (by kernel_rfl) (by kernel_rfl) (fun _ _ _ h => h) (by kernel_rfl) ?_ (by assumption) ?_
            rotate_left 1
            · (intro wS hSw; (try dsimp only at hSw); go_simp; try with_reducible rfl)
            try simp only [Act.put, List.setIfInBounds_toArray, List.set_cons_zero, List.set_cons_succ]
            refine wpAnyH_done (by kernel_rfl) ?_ _
            go_wp2_with fail
            go_meet
            case rel => exact ⟨rfl, sx.out.at_ (x + 1) 34 #[.int .i64 0, .int .i64 0] (by repeat (first | (with_reducible exact List.mem_cons_self) | apply List.mem_cons_of_mem)), sx.out.1⟩
          refine rg_step (i := 18) (l := #[true, true, true, true, true, true, true, false, true, true, true, true, true, true, true, true, true, true, true, true, true, true, false, true, true, false, true, true, false, false, false, false, false, false, false, false]) rfl (by kernel_rfl) (by kernel_rfl) ?_ ?_
          · intro K hK
            go_simp
            go_at_call 59
            refine (K18.out _ sx.out.1).mono ?_
            rintro e w52 ⟨v18, rfl, own, hb⟩
            obtain ⟨A18, c18, rfl⟩ := own_sl own
            have sx2 := Lib.hid (sx.out.row hb own)
            clear sx hb own
            have sx := sx2
            clear sx2
            first | (refine hK.out _ _ ?_ (fun hHeld => ?_)) | (go_wp2_with fail; refine hK.out _ _ ?_ (fun hHeld => ?_))
            · (try dsimp only); exact CE.out _ (sx.out.at_ x 27 #[.slice A n ca, .slice V a cv, .slice C b cc, .slice R c cr, .slice E m ce, .int .i64 bud] (by repeat (first | (with_reducible exact List.mem_cons_self) | apply List.mem_cons_of_mem)))
            clear hK K
            try simp only [Act.put, List.setIfInBounds_toArray, List.set_cons_zero, List.set_cons_succ]
            refine rg_of (rs := [7, 22]) (fuel := 10) (by kernel_rfl) rfl ?_
            refine rg_step (i := 7) (l := #[true, true, true, true, true, true, true, true, true, true, true, true, true, true, true, true, true, true, true, true, true, true, false, true, true, false, true, true, false, false, false, false, false, false, false, false]) rfl (by kernel_rfl) (by kernel_rfl) ?_ ?_
            · intro K hK
              go_simp
              skip
              first | (refine hK.out _ _ ?_ (fun hHeld => ?_)) | (go_wp2_with fail; refine hK.out _ _ ?_ (fun hHeld => ?_))
              · (try dsimp only); exact CE.out _ ((sx.out.one L1).at_ x 27 #[.slice A n ca, .slice V a cv, .slice C b cc, .slice R c cr, .slice E m ce, .int .i64 bud] (by repeat (first | (with_reducible exact List.mem_cons_self) | apply List.mem_cons_of_mem)))
              clear hK K
              try simp only [Act.put, List.setIfInBounds_toArray, List.set_cons_zero, List.set_cons_succ]
              have sx2 := Lib.hid (sx.out.one L1)
              clear sx
              have sx := sx2
              clear sx2
              obtain ⟨g7, hg7⟩ : ∃ q, w52.heap.size = q := ⟨_, rfl⟩
              rw [hg7] at sx ⊢
              clear hg7
              generalize World.alloc w52 _ = w53 at *
              refine rg_next (i := 22) (l := #[true, true, true, true, true, true, true, true, true, true, true, true, true, true, true, true, true, true, true, true, true, true, true, true, true, false, true, true, false, false, false, false, false, false, false, false]) (fuel := 9) (by kernel_rfl) rfl (by kernel_rfl) (by kernel_rfl) (fun K hK => ?_)
              go_simp
              go_at_call 59
              refine (K22.out _ sx.out.1).mono ?_
              rintro e w54 ⟨v22, rfl, own, hb⟩
              obtain ⟨A22, c22, rfl⟩ := own_sl own
              have sx2 := Lib.hid (sx.out.row hb own)
              clear sx hb own
              have sx := sx2
              clear sx2
              first | (refine hK.out _ _ ?_ (fun hHeld => ?_)) | (go_wp2_with fail; refine hK.out _ _ ?_ (fun hHeld => ?_))
              · (try dsimp only); exact CE.out _ (sx.out.at_ x 27 #[.slice A n ca, .slice V a cv, .slice C b cc, .slice R c cr, .slice E m ce, .int .i64 bud] (by repeat (first | (with_reducible exact List.mem_cons_self) | apply List.mem_cons_of_mem)))
              clear hK K
              try simp only [Act.put, List.setIfInBounds_toArray, List.set_cons_zero, List.set_cons_succ]
              refine rg_next (i := 25) (l := #[true, true, true, true, true, true, true, true, true, true, true, true, true, true, true, true, true, true, true, true, true, true, true, true, true, true, true, true, false, false, false, false, false, false, false, false]) (fuel := 8) (by kernel_rfl) rfl (by kernel_rfl) (by kernel_rfl) (fun K hK => ?_)
              go_simp
              go_at_call 60
              refine (K25.out _ sx.out.1).mono ?_
              rintro e w55 ⟨v25, rfl, own, hb⟩
              obtain ⟨A25, c25, rfl⟩ := own_sl own
              have sx2 := Lib.hid (sx.out.row hb own)
              clear sx hb own
              have sx := sx2
              clear sx2
              first | (refine hK.out _ _ ?_ (fun hHeld => ?_)) | (go_wp2_with fail; refine hK.out _ _ ?_ (fun hHeld => ?_))
              · (try dsimp only); exact CE.out _ (sx.out.at_ x 27 #[.slice A n ca, .slice V a cv, .slice C b cc, .slice R c cr, .slice E m ce, .int .i64 bud] (by repeat (first | (with_reducible exact List.mem_cons_self) | apply List.mem_cons_of_mem)))
              clear hK K
              try simp only [Act.put, List.setIfInBounds_toArray, List.set_cons_zero, List.set_cons_succ]
              refine rg_next (i := 28) (l := #[true, true, true, true, true, true, true, true, true, true, true, true, true, true, true, true, true, true, true, true, true, true, true, true, true, true, true, true, true, false, false, false, false, false, false, false]) (fuel := 7) (by kernel_rfl) rfl (by kernel_rfl) (by kernel_rfl) (fun K hK => ?_)
              go_simp
              go_at_call 57
              refine (K28.out _ sx.out.1).mono ?_
              rintro e w56 ⟨rfl, hb⟩
              have sx2 := Lib.hid (sx.out.later hb)
              clear sx hb
              have sx := sx2
              clear sx2
              first | (refine hK.out _ _ ?_ (fun hHeld => ?_)) | (go_wp2_with fail; refine hK.out _ _ ?_ (fun hHeld => ?_))
              · (try dsimp only); exact CE.out _ (sx.out.at_ x 27 #[.slice A n ca, .slice V a cv, .slice C b cc, .slice R c cr, .slice E m ce, .int .i64 bud] (by repeat (first | (with_reducible exact List.mem_cons_self) | apply List.mem_cons_of_mem)))
              clear hK K
              try simp only [Act.put, List.setIfInBounds_toArray, List.set_cons_zero, List.set_cons_succ]
              refine rg_next (i := 29) (l := #[true, true, true, true, true, true, true, true, true, true, true, true, true, true, true, true, true, true, true, true, true, true, true, true, true, true, true, true, true, true, false, false, false, false, false, false]) (fuel := 6) (by kernel_rfl) rfl (by kernel_rfl) (by kernel_rfl) (fun K hK => ?_)
              go_simp
              skip
              first | (refine hK.out _ _ ?_ (fun hHeld => ?_)) | (go_wp2_with fail; refine hK.out _ _ ?_ (fun hHeld => ?_))
              · (try dsimp only); exact CE.out _ ((sx.out.make 9 #[.string ⟨#[98, 117, 100, 103, 101, 116]⟩, .string D2]).at_ x 27 #[.slice A n ca, .slice V a cv, .slice C b cc, .slice R c cr, .slice E m ce, .int .i64 bud] (by repeat (first | (with_reducible exact List.mem_cons_self) | apply List.mem_cons_of_mem)))
              clear hK K
              try simp only [Act.put, List.setIfInBounds_toArray, List.set_cons_zero, List.set_cons_succ]
              have sx2 := Lib.hid (sx.out.make 9 #[.string ⟨#[98, 117, 100, 103, 101, 116]⟩, .string D2])
              clear sx
              have sx := sx2
              clear sx2
              obtain ⟨g29, hg29⟩ : ∃ q, w56.heap.size = q := ⟨_, rfl⟩
              rw [hg29] at sx ⊢
              clear hg29
              generalize World.alloc w56 _ = w57 at *
              refine rg_next (i := 30) (l := #[true, true, true, true, true, true, true, true, true, true, true, true, true, true, true, true, true, true, true, true, true, true, true, true, true, true, true, true, true, true, true, false, false, false, false, false]) (fuel := 5) (by kernel_rfl) rfl (by kernel_rfl) (by kernel_rfl) (fun K hK => ?_)
              go_simp
              go_at_call 56
              refine (scline2_any (sx.out.at_ g29 9 #[.string ⟨#[98, 117, 100, 103, 101, 116]⟩, .string D2] (by repeat (first | (with_reducible exact List.mem_cons_self) | apply List.mem_cons_of_mem))) (by decide) HD2.out).mono ?_
              rw [HL2.out]
              rintro e w58 ⟨rfl, hb⟩
              have sx2 := Lib.hid (sx.out.later hb)
              clear sx hb
              have sx := sx2
              clear sx2
              first | (refine hK.out _ _ ?_ (fun hHeld => ?_)) | (go_wp2_with fail; refine hK.out _ _ ?_ (fun hHeld => ?_))
              · (try dsimp only); exact CE.out _ (sx.out.at_ x 27 #[.slice A n ca, .slice V a cv, .slice C b cc, .slice R c cr, .slice E m ce, .int .i64 bud] (by repeat (first | (with_reducible exact List.mem_cons_self) | apply List.mem_cons_of_mem)))
              clear hK K
              try simp only [Act.put, List.setIfInBounds_toArray, List.set_cons_zero, List.set_cons_succ]
              refine rg_next (i := 31) (l := #[true, true, true, true, true, true, true, true, true, true, true, true, true, true, true, true, true, true, true, true, true, true, true, true, true, true, true, true, true, true, true, true, false, false, false, false]) (fuel := 4) (by kernel_rfl) rfl (by kernel_rfl) (by kernel_rfl) (fun K hK => ?_)
              go_simp
              skip
              first | (refine hK.out _ _ ?_ (fun hHeld => ?_)) | (go_wp2_with fail; refine hK.out _ _ ?_ (fun hHeld => ?_))
              · (try dsimp only); exact CE.out _ ((sx.out.one L2).at_ x 27 #[.slice A n ca, .slice V a cv, .slice C b cc, .slice R c cr, .slice E m ce, .int .i64 bud] (by repeat (first | (with_reducible exact List.mem_cons_self) | apply List.mem_cons_of_mem)))
              clear hK K
              try simp only [Act.put, List.setIfInBounds_toArray, List.set_cons_zero, List.set_cons_succ]
              have sx2 := Lib.hid (sx.out.one L2)
              clear sx
              have sx := sx2
              clear sx2
              obtain ⟨g31, hg31⟩ : ∃ q, w58.heap.size = q := ⟨_, rfl⟩
              rw [hg31] at sx ⊢
              clear hg31
              generalize World.alloc w58 _ = w59 at *
              refine rg_next (i := 32) (l := #[true, true, true, true, true, true, true, true, true, true, true, true, true, true, true, true, true, true, true, true, true, true, true, true, true, true, true, true, true, true, true, true, true, false, false, false]) (fuel := 3) (by kernel_rfl) rfl (by kernel_rfl) (by kernel_rfl) (fun K hK => ?_)
              go_simp
              skip
              first | (refine hK.out _ _ ?_ (fun hHeld => ?_)) | (go_wp2_with fail; refine hK.out _ _ ?_ (fun hHeld => ?_))
              · (try dsimp only); exact CE.out _ ((sx.out.make 45 #[.slice (some ⟨g7, 0, none⟩) 1 1, .slice A10 I.length c10, .slice A14 F1.length c14, .slice A18 F2.length c18, .slice A22 F3.length c22, .slice A25 E1.length c25, .slice (some ⟨g31, 0, none⟩) 1 1]).at_ x 27 #[.slice A n ca, .slice V a cv, .slice C b cc, .slice R c cr, .slice E m ce, .int .i64 bud] (by repeat (first | (with_reducible exact List.mem_cons_self) | apply List.mem_cons_of_mem)))
              clear hK K
              try simp only [Act.put, List.setIfInBounds_toArray, List.set_cons_zero, List.set_cons_succ]
              have sx2 := Lib.hid (sx.out.make 45 #[.slice (some ⟨g7, 0, none⟩) 1 1, .slice A10 I.length c10, .slice A14 F1.length c14, .slice A18 F2.length c18, .slice A22 F3.length c22, .slice A25 E1.length c25, .slice (some ⟨g31, 0, none⟩) 1 1])
              clear sx
              have sx := sx2
              clear sx2
              obtain ⟨g32, hg32⟩ : ∃ q, w59.heap.size = q := ⟨_, rfl⟩
              rw [hg32] at sx ⊢
              clear hg32
              generalize World.alloc w59 _ = w60 at *
              have hps : ∀ p ∈ ([(.slice (some ⟨g7, 0, none⟩) 1 1, [L1]), (.slice A10 I.length c10, I), (.slice A14 F1.length c14, F1), (.slice A18 F2.length c18, F2), (.slice A22 F3.length c22, F3), (.slice A25 E1.length c25, E1), (.slice (some ⟨g31, 0, none⟩) 1 1, [L2])] : List (Value × List ByteArray)), w60.ownsRow w.heap.size 9 1 p.1 p.2.length (strV p.2) := fun p hp => by
                simp only [List.mem_cons, List.not_mem_nil, or_false] at hp
                rcases hp with rfl | rfl | rfl | rfl | rfl | rfl | rfl <;> exact sx.out.2.1 _ (by repeat (first | (with_reducible exact List.mem_cons_self) | apply List.mem_cons_of_mem))
              have HPS := Lib.hid hps
              clear hps
              refine rg_next (i := 33) (l := #[true, true, true, true, true, true, true, true, true, true, true, true, true, true, true, true, true, true, true, true, true, true, true, true, true, true, true, true, true, true, true, true, true, true, false, false]) (fuel := 2) (by kernel_rfl) rfl (by kernel_rfl) (by kernel_rfl) (fun K hK => ?_)
              go_simp
              go_at_call 55
              refine (sconcat_any g32 7 7 w.heap.size [(.slice (some ⟨g7, 0, none⟩) 1 1, [L1]), (.slice A10 I.length c10, I), (.slice A14 F1.length c14, F1), (.slice A18 F2.length c18, F2), (.slice A22 F3.length c22, F3), (.slice A25 E1.length c25, E1), (.slice (some ⟨g31, 0, none⟩) 1 1, [L2])] rfl (by decide) (by decide) _ (sx.out.at_ g32 45 #[.slice (some ⟨g7, 0, none⟩) 1 1, .slice A10 I.length c10, .slice A14 F1.length c14, .slice A18 F2.length c18, .slice A22 F3.length c22, .slice A25 E1.length c25, .slice (some ⟨g31, 0, none⟩) 1 1] (by repeat (first | (with_reducible exact List.mem_cons_self) | apply List.mem_cons_of_mem))) HPS.out (by rw [HFL.out]; exact HLN.out.1) (by rw [HFL.out]; have := HLN.out.2; omega)).mono ?_
              rw [HFL.out]
              rintro e w61 ⟨vC, rfl, own, hb⟩
              have OC := Lib.hid own
              have sx2 := Lib.hid (sx.out.later hb)
              clear sx hb own HPS
              have sx := sx2
              clear sx2
              first | (refine hK.out _ _ ?_ (fun hHeld => ?_)) | (go_wp2_with fail; refine hK.out _ _ ?_ (fun hHeld => ?_))
              · (try dsimp only); exact CE.out _ (sx.out.at_ x 27 #[.slice A n ca, .slice V a cv, .slice C b cc, .slice R c cr, .slice E m ce, .int .i64 bud] (by repeat (first | (with_reducible exact List.mem_cons_self) | apply List.mem_cons_of_mem)))
              clear hK K
              try simp only [Act.put, List.setIfInBounds_toArray, List.set_cons_zero, List.set_cons_succ]
              refine rg_next (i := 34) (l := #[true, true, true, true, true, true, true, true, true, true, true, true, true, true, true, true, true, true, true, true, true, true, true, true, true, true, true, true, true, true, true, true, true, true, true, false]) (fuel := 1) (by kernel_rfl) rfl (by kernel_rfl) (by kernel_rfl) (fun K hK => ?_)
              go_simp
              go_at_call 54
              refine (sccat_own OC.out HLN.out.1 (by have := HLN.out.2; omega) (by rw [← HTB.out]; exact HCS.out)).mono ?_
              rw [← HTB.out]
              rintro e w62 ⟨rfl, hb⟩
              have sx2 := Lib.hid (sx.out.later hb)
              clear sx hb
              have sx := sx2
              clear sx2
              first | (refine hK.out _ _ ?_ (fun hHeld => ?_)) | (go_wp2_with fail; refine hK.out _ _ ?_ (fun hHeld => ?_))
              · (try dsimp only); exact CE.out _ (sx.out.at_ x 27 #[.slice A n ca, .slice V a cv, .slice C b cc, .slice R c cr, .slice E m ce, .int .i64 bud] (by repeat (first | (with_reducible exact List.mem_cons_self) | apply List.mem_cons_of_mem)))
              clear hK K
              try simp only [Act.put, List.setIfInBounds_toArray, List.set_cons_zero, List.set_cons_succ]
              refine rg_take (i := 35) (d := some 5) (l := #[true, true, true, true, true, true, true, true, true, true, true, true, true, true, true, true, true, true, true, true, true, true, true, true, true, true, true, true, true, true, true, true, true, true, true, true]) (fuel := 0) (v := ?_) rfl (by kernel_rfl) (by kernel_rfl) (by kernel_rfl) (by kernel_rfl) (by kernel_rfl) (fun _ _ _ h => h) (by kernel_rfl) ?_ (by assumption) ?_
              rotate_left 1
              · (intro wS hSw; (try dsimp only at hSw); go_simp; try with_reducible rfl)
              try simp only [Act.put, List.setIfInBounds_toArray, List.set_cons_zero, List.set_cons_succ]
              refine wpAnyH_done (by kernel_rfl) ?_ _
              go_wp2_with fail
              go_meet
              case rel => exact ⟨rfl, sx.out.at_ (x + 1) 34 #[.int .i64 0, .int .i64 0] (by repeat (first | (with_reducible exact List.mem_cons_self) | apply List.mem_cons_of_mem)), sx.out.1⟩
            refine rg_step (i := 22) (l := #[true, true, true, true, true, true, true, false, true, true, true, true, true, true, true, true, true, true, true, true, true, true, true, true, true, false, true, true, false, false, false, false, false, false, false, false]) rfl (by kernel_rfl) (by kernel_rfl) ?_ ?_
            · intro K hK
              go_simp
              go_at_call 59
              refine (K22.out _ sx.out.1).mono ?_
              rintro e w63 ⟨v22, rfl, own, hb⟩
              obtain ⟨A22, c22, rfl⟩ := own_sl own
              have sx2 := Lib.hid (sx.out.row hb own)
              clear sx hb own
              have sx := sx2
              clear sx2
              first | (refine hK.out _ _ ?_ (fun hHeld => ?_)) | (go_wp2_with fail; refine hK.out _ _ ?_ (fun hHeld => ?_))
              · (try dsimp only); exact CE.out _ (sx.out.at_ x 27 #[.slice A n ca, .slice V a cv, .slice C b cc, .slice R c cr, .slice E m ce, .int .i64 bud] (by repeat (first | (with_reducible exact List.mem_cons_self) | apply List.mem_cons_of_mem)))
              clear hK K
              try simp only [Act.put, List.setIfInBounds_toArray, List.set_cons_zero, List.set_cons_succ]
              refine rg_of (rs := [7, 25]) (fuel := 9) (by kernel_rfl) rfl ?_
              refine rg_step (i := 7) (l := #[true, true, true, true, true, true, true, true, true, true, true, true, true, true, true, true, true, true, true, true, true, true, true, true, true, false, true, true, false, false, false, false, false, false, false, false]) rfl (by kernel_rfl) (by kernel_rfl) ?_ ?_
              · intro K hK
                go_simp
                skip
                first | (refine hK.out _ _ ?_ (fun hHeld => ?_)) | (go_wp2_with fail; refine hK.out _ _ ?_ (fun hHeld => ?_))
                · (try dsimp only); exact CE.out _ ((sx.out.one L1).at_ x 27 #[.slice A n ca, .slice V a cv, .slice C b cc, .slice R c cr, .slice E m ce, .int .i64 bud] (by repeat (first | (with_reducible exact List.mem_cons_self) | apply List.mem_cons_of_mem)))
                clear hK K
                try simp only [Act.put, List.setIfInBounds_toArray, List.set_cons_zero, List.set_cons_succ]
                have sx2 := Lib.hid (sx.out.one L1)
                clear sx
                have sx := sx2
                clear sx2
                obtain ⟨g7, hg7⟩ : ∃ q, w63.heap.size = q := ⟨_, rfl⟩
                rw [hg7] at sx ⊢
                clear hg7
                generalize World.alloc w63 _ = w64 at *
                refine rg_next (i := 25) (l := #[true, true, true, true, true, true, true, true, true, true, true, true, true, true, true, true, true, true, true, true, true, true, true, true, true, true, true, true, false, false, false, false, false, false, false, false]) (fuel := 8) (by kernel_rfl) rfl (by kernel_rfl) (by kernel_rfl) (fun K hK => ?_)
                go_simp
                go_at_call 60
                refine (K25.out _ sx.out.1).mono ?_
                rintro e w65 ⟨v25, rfl, own, hb⟩
                obtain ⟨A25, c25, rfl⟩ := own_sl own
                have sx2 := Lib.hid (sx.out.row hb own)
                clear sx hb own
                have sx := sx2
                clear sx2
                first | (refine hK.out _ _ ?_ (fun hHeld => ?_)) | (go_wp2_with fail; refine hK.out _ _ ?_ (fun hHeld => ?_))
                · (try dsimp only); exact CE.out _ (sx.out.at_ x 27 #[.slice A n ca, .slice V a cv, .slice C b cc, .slice R c cr, .slice E m ce, .int .i64 bud] (by repeat (first | (with_reducible exact List.mem_cons_self) | apply List.mem_cons_of_mem)))
                clear hK K
                try simp only [Act.put, List.setIfInBounds_toArray, List.set_cons_zero, List.set_cons_succ]
                refine rg_next (i := 28) (l := #[true, true, true, true, true, true, true, true, true, true, true, true, true, true, true, true, true, true, true, true, true, true, true, true, true, true, true, true, true, false, false, false, false, false, false, false]) (fuel := 7) (by kernel_rfl) rfl (by kernel_rfl) (by kernel_rfl) (fun K hK => ?_)
                go_simp
                go_at_call 57
                refine (K28.out _ sx.out.1).mono ?_
                rintro e w66 ⟨rfl, hb⟩
                have sx2 := Lib.hid (sx.out.later hb)
                clear sx hb
                have sx := sx2
                clear sx2
                first | (refine hK.out _ _ ?_ (fun hHeld => ?_)) | (go_wp2_with fail; refine hK.out _ _ ?_ (fun hHeld => ?_))
                · (try dsimp only); exact CE.out _ (sx.out.at_ x 27 #[.slice A n ca, .slice V a cv, .slice C b cc, .slice R c cr, .slice E m ce, .int .i64 bud] (by repeat (first | (with_reducible exact List.mem_cons_self) | apply List.mem_cons_of_mem)))
                clear hK K
                try simp only [Act.put, List.setIfInBounds_toArray, List.set_cons_zero, List.set_cons_succ]
                refine rg_next (i := 29) (l := #[true, true, true, true, true, true, true, true, true, true, true, true, true, true, true, true, true, true, true, true, true, true, true, true, true, true, true, true, true, true, false, false, false, false, false, false]) (fuel := 6) (by kernel_rfl) rfl (by kernel_rfl) (by kernel_rfl) (fun K hK => ?_)
                go_simp
                skip
                first | (refine hK.out _ _ ?_ (fun hHeld => ?_)) | (go_wp2_with fail; refine hK.out _ _ ?_ (fun hHeld => ?_))
                · (try dsimp only); exact CE.out _ ((sx.out.make 9 #[.string ⟨#[98, 117, 100, 103, 101, 116]⟩, .string D2]).at_ x 27 #[.slice A n ca, .slice V a cv, .slice C b cc, .slice R c cr, .slice E m ce, .int .i64 bud] (by repeat (first | (with_reducible exact List.mem_cons_self) | apply List.mem_cons_of_mem)))
                clear hK K
                try simp only [Act.put, List.setIfInBounds_toArray, List.set_cons_zero, List.set_cons_succ]
                have sx2 := Lib.hid (sx.out.make 9 #[.string ⟨#[98, 117, 100, 103, 101, 116]⟩, .string D2])
                clear sx
                have sx := sx2
                clear sx2
                obtain ⟨g29, hg29⟩ : ∃ q, w66.heap.size = q := ⟨_, rfl⟩
                rw [hg29] at sx ⊢
                clear hg29
                generalize World.alloc w66 _ = w67 at *
                refine rg_next (i := 30) (l := #[true, true, true, true, true, true, true, true, true, true, true, true, true, true, true, true, true, true, true, true, true, true, true, true, true, true, true, true, true, true, true, false, false, false, false, false]) (fuel := 5) (by kernel_rfl) rfl (by kernel_rfl) (by kernel_rfl) (fun K hK => ?_)
                go_simp
                go_at_call 56
                refine (scline2_any (sx.out.at_ g29 9 #[.string ⟨#[98, 117, 100, 103, 101, 116]⟩, .string D2] (by repeat (first | (with_reducible exact List.mem_cons_self) | apply List.mem_cons_of_mem))) (by decide) HD2.out).mono ?_
                rw [HL2.out]
                rintro e w68 ⟨rfl, hb⟩
                have sx2 := Lib.hid (sx.out.later hb)
                clear sx hb
                have sx := sx2
                clear sx2
                first | (refine hK.out _ _ ?_ (fun hHeld => ?_)) | (go_wp2_with fail; refine hK.out _ _ ?_ (fun hHeld => ?_))
                · (try dsimp only); exact CE.out _ (sx.out.at_ x 27 #[.slice A n ca, .slice V a cv, .slice C b cc, .slice R c cr, .slice E m ce, .int .i64 bud] (by repeat (first | (with_reducible exact List.mem_cons_self) | apply List.mem_cons_of_mem)))
                clear hK K
                try simp only [Act.put, List.setIfInBounds_toArray, List.set_cons_zero, List.set_cons_succ]
                refine rg_next (i := 31) (l := #[true, true, true, true, true, true, true, true, true, true, true, true, true, true, true, true, true, true, true, true, true, true, true, true, true, true, true, true, true, true, true, true, false, false, false, false]) (fuel := 4) (by kernel_rfl) rfl (by kernel_rfl) (by kernel_rfl) (fun K hK => ?_)
                go_simp
                skip
                first | (refine hK.out _ _ ?_ (fun hHeld => ?_)) | (go_wp2_with fail; refine hK.out _ _ ?_ (fun hHeld => ?_))
                · (try dsimp only); exact CE.out _ ((sx.out.one L2).at_ x 27 #[.slice A n ca, .slice V a cv, .slice C b cc, .slice R c cr, .slice E m ce, .int .i64 bud] (by repeat (first | (with_reducible exact List.mem_cons_self) | apply List.mem_cons_of_mem)))
                clear hK K
                try simp only [Act.put, List.setIfInBounds_toArray, List.set_cons_zero, List.set_cons_succ]
                have sx2 := Lib.hid (sx.out.one L2)
                clear sx
                have sx := sx2
                clear sx2
                obtain ⟨g31, hg31⟩ : ∃ q, w68.heap.size = q := ⟨_, rfl⟩
                rw [hg31] at sx ⊢
                clear hg31
                generalize World.alloc w68 _ = w69 at *
                refine rg_next (i := 32) (l := #[true, true, true, true, true, true, true, true, true, true, true, true, true, true, true, true, true, true, true, true, true, true, true, true, true, true, true, true, true, true, true, true, true, false, false, false]) (fuel := 3) (by kernel_rfl) rfl (by kernel_rfl) (by kernel_rfl) (fun K hK => ?_)
                go_simp
                skip
                first | (refine hK.out _ _ ?_ (fun hHeld => ?_)) | (go_wp2_with fail; refine hK.out _ _ ?_ (fun hHeld => ?_))
                · (try dsimp only); exact CE.out _ ((sx.out.make 45 #[.slice (some ⟨g7, 0, none⟩) 1 1, .slice A10 I.length c10, .slice A14 F1.length c14, .slice A18 F2.length c18, .slice A22 F3.length c22, .slice A25 E1.length c25, .slice (some ⟨g31, 0, none⟩) 1 1]).at_ x 27 #[.slice A n ca, .slice V a cv, .slice C b cc, .slice R c cr, .slice E m ce, .int .i64 bud] (by repeat (first | (with_reducible exact List.mem_cons_self) | apply List.mem_cons_of_mem)))
                clear hK K
                try simp only [Act.put, List.setIfInBounds_toArray, List.set_cons_zero, List.set_cons_succ]
                have sx2 := Lib.hid (sx.out.make 45 #[.slice (some ⟨g7, 0, none⟩) 1 1, .slice A10 I.length c10, .slice A14 F1.length c14, .slice A18 F2.length c18, .slice A22 F3.length c22, .slice A25 E1.length c25, .slice (some ⟨g31, 0, none⟩) 1 1])
                clear sx
                have sx := sx2
                clear sx2
                obtain ⟨g32, hg32⟩ : ∃ q, w69.heap.size = q := ⟨_, rfl⟩
                rw [hg32] at sx ⊢
                clear hg32
                generalize World.alloc w69 _ = w70 at *
                have hps : ∀ p ∈ ([(.slice (some ⟨g7, 0, none⟩) 1 1, [L1]), (.slice A10 I.length c10, I), (.slice A14 F1.length c14, F1), (.slice A18 F2.length c18, F2), (.slice A22 F3.length c22, F3), (.slice A25 E1.length c25, E1), (.slice (some ⟨g31, 0, none⟩) 1 1, [L2])] : List (Value × List ByteArray)), w70.ownsRow w.heap.size 9 1 p.1 p.2.length (strV p.2) := fun p hp => by
                  simp only [List.mem_cons, List.not_mem_nil, or_false] at hp
                  rcases hp with rfl | rfl | rfl | rfl | rfl | rfl | rfl <;> exact sx.out.2.1 _ (by repeat (first | (with_reducible exact List.mem_cons_self) | apply List.mem_cons_of_mem))
                have HPS := Lib.hid hps
                clear hps
                refine rg_next (i := 33) (l := #[true, true, true, true, true, true, true, true, true, true, true, true, true, true, true, true, true, true, true, true, true, true, true, true, true, true, true, true, true, true, true, true, true, true, false, false]) (fuel := 2) (by kernel_rfl) rfl (by kernel_rfl) (by kernel_rfl) (fun K hK => ?_)
                go_simp
                go_at_call 55
                refine (sconcat_any g32 7 7 w.heap.size [(.slice (some ⟨g7, 0, none⟩) 1 1, [L1]), (.slice A10 I.length c10, I), (.slice A14 F1.length c14, F1), (.slice A18 F2.length c18, F2), (.slice A22 F3.length c22, F3), (.slice A25 E1.length c25, E1), (.slice (some ⟨g31, 0, none⟩) 1 1, [L2])] rfl (by decide) (by decide) _ (sx.out.at_ g32 45 #[.slice (some ⟨g7, 0, none⟩) 1 1, .slice A10 I.length c10, .slice A14 F1.length c14, .slice A18 F2.length c18, .slice A22 F3.length c22, .slice A25 E1.length c25, .slice (some ⟨g31, 0, none⟩) 1 1] (by repeat (first | (with_reducible exact List.mem_cons_self) | apply List.mem_cons_of_mem))) HPS.out (by rw [HFL.out]; exact HLN.out.1) (by rw [HFL.out]; have := HLN.out.2; omega)).mono ?_
                rw [HFL.out]
                rintro e w71 ⟨vC, rfl, own, hb⟩
                have OC := Lib.hid own
                have sx2 := Lib.hid (sx.out.later hb)
                clear sx hb own HPS
                have sx := sx2
                clear sx2
                first | (refine hK.out _ _ ?_ (fun hHeld => ?_)) | (go_wp2_with fail; refine hK.out _ _ ?_ (fun hHeld => ?_))
                · (try dsimp only); exact CE.out _ (sx.out.at_ x 27 #[.slice A n ca, .slice V a cv, .slice C b cc, .slice R c cr, .slice E m ce, .int .i64 bud] (by repeat (first | (with_reducible exact List.mem_cons_self) | apply List.mem_cons_of_mem)))
                clear hK K
                try simp only [Act.put, List.setIfInBounds_toArray, List.set_cons_zero, List.set_cons_succ]
                refine rg_next (i := 34) (l := #[true, true, true, true, true, true, true, true, true, true, true, true, true, true, true, true, true, true, true, true, true, true, true, true, true, true, true, true, true, true, true, true, true, true, true, false]) (fuel := 1) (by kernel_rfl) rfl (by kernel_rfl) (by kernel_rfl) (fun K hK => ?_)
                go_simp
                go_at_call 54
                refine (sccat_own OC.out HLN.out.1 (by have := HLN.out.2; omega) (by rw [← HTB.out]; exact HCS.out)).mono ?_
                rw [← HTB.out]
                rintro e w72 ⟨rfl, hb⟩
                have sx2 := Lib.hid (sx.out.later hb)
                clear sx hb
                have sx := sx2
                clear sx2
                first | (refine hK.out _ _ ?_ (fun hHeld => ?_)) | (go_wp2_with fail; refine hK.out _ _ ?_ (fun hHeld => ?_))
                · (try dsimp only); exact CE.out _ (sx.out.at_ x 27 #[.slice A n ca, .slice V a cv, .slice C b cc, .slice R c cr, .slice E m ce, .int .i64 bud] (by repeat (first | (with_reducible exact List.mem_cons_self) | apply List.mem_cons_of_mem)))
                clear hK K
                try simp only [Act.put, List.setIfInBounds_toArray, List.set_cons_zero, List.set_cons_succ]
                refine rg_take (i := 35) (d := some 5) (l := #[true, true, true, true, true, true, true, true, true, true, true, true, true, true, true, true, true, true, true, true, true, true, true, true, true, true, true, true, true, true, true, true, true, true, true, true]) (fuel := 0) (v := ?_) rfl (by kernel_rfl) (by kernel_rfl) (by kernel_rfl) (by kernel_rfl) (by kernel_rfl) (fun _ _ _ h => h) (by kernel_rfl) ?_ (by assumption) ?_
                rotate_left 1
                · (intro wS hSw; (try dsimp only at hSw); go_simp; try with_reducible rfl)
                try simp only [Act.put, List.setIfInBounds_toArray, List.set_cons_zero, List.set_cons_succ]
                refine wpAnyH_done (by kernel_rfl) ?_ _
                go_wp2_with fail
                go_meet
                case rel => exact ⟨rfl, sx.out.at_ (x + 1) 34 #[.int .i64 0, .int .i64 0] (by repeat (first | (with_reducible exact List.mem_cons_self) | apply List.mem_cons_of_mem)), sx.out.1⟩
              refine rg_step (i := 25) (l := #[true, true, true, true, true, true, true, false, true, true, true, true, true, true, true, true, true, true, true, true, true, true, true, true, true, true, true, true, false, false, false, false, false, false, false, false]) rfl (by kernel_rfl) (by kernel_rfl) ?_ ?_
              · intro K hK
                go_simp
                go_at_call 60
                refine (K25.out _ sx.out.1).mono ?_
                rintro e w73 ⟨v25, rfl, own, hb⟩
                obtain ⟨A25, c25, rfl⟩ := own_sl own
                have sx2 := Lib.hid (sx.out.row hb own)
                clear sx hb own
                have sx := sx2
                clear sx2
                first | (refine hK.out _ _ ?_ (fun hHeld => ?_)) | (go_wp2_with fail; refine hK.out _ _ ?_ (fun hHeld => ?_))
                · (try dsimp only); exact CE.out _ (sx.out.at_ x 27 #[.slice A n ca, .slice V a cv, .slice C b cc, .slice R c cr, .slice E m ce, .int .i64 bud] (by repeat (first | (with_reducible exact List.mem_cons_self) | apply List.mem_cons_of_mem)))
                clear hK K
                try simp only [Act.put, List.setIfInBounds_toArray, List.set_cons_zero, List.set_cons_succ]
                refine rg_of (rs := [7, 28]) (fuel := 8) (by kernel_rfl) rfl ?_
                refine rg_step (i := 7) (l := #[true, true, true, true, true, true, true, true, true, true, true, true, true, true, true, true, true, true, true, true, true, true, true, true, true, true, true, true, false, false, false, false, false, false, false, false]) rfl (by kernel_rfl) (by kernel_rfl) ?_ ?_
                · intro K hK
                  go_simp
                  skip
                  first | (refine hK.out _ _ ?_ (fun hHeld => ?_)) | (go_wp2_with fail; refine hK.out _ _ ?_ (fun hHeld => ?_))
                  · (try dsimp only); exact CE.out _ ((sx.out.one L1).at_ x 27 #[.slice A n ca, .slice V a cv, .slice C b cc, .slice R c cr, .slice E m ce, .int .i64 bud] (by repeat (first | (with_reducible exact List.mem_cons_self) | apply List.mem_cons_of_mem)))
                  clear hK K
                  try simp only [Act.put, List.setIfInBounds_toArray, List.set_cons_zero, List.set_cons_succ]
                  have sx2 := Lib.hid (sx.out.one L1)
                  clear sx
                  have sx := sx2
                  clear sx2
                  obtain ⟨g7, hg7⟩ : ∃ q, w73.heap.size = q := ⟨_, rfl⟩
                  rw [hg7] at sx ⊢
                  clear hg7
                  generalize World.alloc w73 _ = w74 at *
                  refine rg_next (i := 28) (l := #[true, true, true, true, true, true, true, true, true, true, true, true, true, true, true, true, true, true, true, true, true, true, true, true, true, true, true, true, true, false, false, false, false, false, false, false]) (fuel := 7) (by kernel_rfl) rfl (by kernel_rfl) (by kernel_rfl) (fun K hK => ?_)
                  go_simp
                  go_at_call 57
                  refine (K28.out _ sx.out.1).mono ?_
                  rintro e w75 ⟨rfl, hb⟩
                  have sx2 := Lib.hid (sx.out.later hb)
                  clear sx hb
                  have sx := sx2
                  clear sx2
                  first | (refine hK.out _ _ ?_ (fun hHeld => ?_)) | (go_wp2_with fail; refine hK.out _ _ ?_ (fun hHeld => ?_))
                  · (try dsimp only); exact CE.out _ (sx.out.at_ x 27 #[.slice A n ca, .slice V a cv, .slice C b cc, .slice R c cr, .slice E m ce, .int .i64 bud] (by repeat (first | (with_reducible exact List.mem_cons_self) | apply List.mem_cons_of_mem)))
                  clear hK K
                  try simp only [Act.put, List.setIfInBounds_toArray, List.set_cons_zero, List.set_cons_succ]
                  refine rg_next (i := 29) (l := #[true, true, true, true, true, true, true, true, true, true, true, true, true, true, true, true, true, true, true, true, true, true, true, true, true, true, true, true, true, true, false, false, false, false, false, false]) (fuel := 6) (by kernel_rfl) rfl (by kernel_rfl) (by kernel_rfl) (fun K hK => ?_)
                  go_simp
                  skip
                  first | (refine hK.out _ _ ?_ (fun hHeld => ?_)) | (go_wp2_with fail; refine hK.out _ _ ?_ (fun hHeld => ?_))
                  · (try dsimp only); exact CE.out _ ((sx.out.make 9 #[.string ⟨#[98, 117, 100, 103, 101, 116]⟩, .string D2]).at_ x 27 #[.slice A n ca, .slice V a cv, .slice C b cc, .slice R c cr, .slice E m ce, .int .i64 bud] (by repeat (first | (with_reducible exact List.mem_cons_self) | apply List.mem_cons_of_mem)))
                  clear hK K
                  try simp only [Act.put, List.setIfInBounds_toArray, List.set_cons_zero, List.set_cons_succ]
                  have sx2 := Lib.hid (sx.out.make 9 #[.string ⟨#[98, 117, 100, 103, 101, 116]⟩, .string D2])
                  clear sx
                  have sx := sx2
                  clear sx2
                  obtain ⟨g29, hg29⟩ : ∃ q, w75.heap.size = q := ⟨_, rfl⟩
                  rw [hg29] at sx ⊢
                  clear hg29
                  generalize World.alloc w75 _ = w76 at *
                  refine rg_next (i := 30) (l := #[true, true, true, true, true, true, true, true, true, true, true, true, true, true, true, true, true, true, true, true, true, true, true, true, true, true, true, true, true, true, true, false, false, false, false, false]) (fuel := 5) (by kernel_rfl) rfl (by kernel_rfl) (by kernel_rfl) (fun K hK => ?_)
                  go_simp
                  go_at_call 56
                  refine (scline2_any (sx.out.at_ g29 9 #[.string ⟨#[98, 117, 100, 103, 101, 116]⟩, .string D2] (by repeat (first | (with_reducible exact List.mem_cons_self) | apply List.mem_cons_of_mem))) (by decide) HD2.out).mono ?_
                  rw [HL2.out]
                  rintro e w77 ⟨rfl, hb⟩
                  have sx2 := Lib.hid (sx.out.later hb)
                  clear sx hb
                  have sx := sx2
                  clear sx2
                  first | (refine hK.out _ _ ?_ (fun hHeld => ?_)) | (go_wp2_with fail; refine hK.out _ _ ?_ (fun hHeld => ?_))
                  · (try dsimp only); exact CE.out _ (sx.out.at_ x 27 #[.slice A n ca, .slice V a cv, .slice C b cc, .slice R c cr, .slice E m ce, .int .i64 bud] (by repeat (first | (with_reducible exact List.mem_cons_self) | apply List.mem_cons_of_mem)))
                  clear hK K
                  try simp only [Act.put, List.setIfInBounds_toArray, List.set_cons_zero, List.set_cons_succ]
                  refine rg_next (i := 31) (l := #[true, true, true, true, true, true, true, true, true, true, true, true, true, true, true, true, true, true, true, true, true, true, true, true, true, true, true, true, true, true, true, true, false, false, false, false]) (fuel := 4) (by kernel_rfl) rfl (by kernel_rfl) (by kernel_rfl) (fun K hK => ?_)
                  go_simp
                  skip
                  first | (refine hK.out _ _ ?_ (fun hHeld => ?_)) | (go_wp2_with fail; refine hK.out _ _ ?_ (fun hHeld => ?_))
                  · (try dsimp only); exact CE.out _ ((sx.out.one L2).at_ x 27 #[.slice A n ca, .slice V a cv, .slice C b cc, .slice R c cr, .slice E m ce, .int .i64 bud] (by repeat (first | (with_reducible exact List.mem_cons_self) | apply List.mem_cons_of_mem)))
                  clear hK K
                  try simp only [Act.put, List.setIfInBounds_toArray, List.set_cons_zero, List.set_cons_succ]
                  have sx2 := Lib.hid (sx.out.one L2)
                  clear sx
                  have sx := sx2
                  clear sx2
                  obtain ⟨g31, hg31⟩ : ∃ q, w77.heap.size = q := ⟨_, rfl⟩
                  rw [hg31] at sx ⊢
                  clear hg31
                  generalize World.alloc w77 _ = w78 at *
                  refine rg_next (i := 32) (l := #[true, true, true, true, true, true, true, true, true, true, true, true, true, true, true, true, true, true, true, true, true, true, true, true, true, true, true, true, true, true, true, true, true, false, false, false]) (fuel := 3) (by kernel_rfl) rfl (by kernel_rfl) (by kernel_rfl) (fun K hK => ?_)
                  go_simp
                  skip
                  first | (refine hK.out _ _ ?_ (fun hHeld => ?_)) | (go_wp2_with fail; refine hK.out _ _ ?_ (fun hHeld => ?_))
                  · (try dsimp only); exact CE.out _ ((sx.out.make 45 #[.slice (some ⟨g7, 0, none⟩) 1 1, .slice A10 I.length c10, .slice A14 F1.length c14, .slice A18 F2.length c18, .slice A22 F3.length c22, .slice A25 E1.length c25, .slice (some ⟨g31, 0, none⟩) 1 1]).at_ x 27 #[.slice A n ca, .slice V a cv, .slice C b cc, .slice R c cr, .slice E m ce, .int .i64 bud] (by repeat (first | (with_reducible exact List.mem_cons_self) | apply List.mem_cons_of_mem)))
                  clear hK K
                  try simp only [Act.put, List.setIfInBounds_toArray, List.set_cons_zero, List.set_cons_succ]
                  have sx2 := Lib.hid (sx.out.make 45 #[.slice (some ⟨g7, 0, none⟩) 1 1, .slice A10 I.length c10, .slice A14 F1.length c14, .slice A18 F2.length c18, .slice A22 F3.length c22, .slice A25 E1.length c25, .slice (some ⟨g31, 0, none⟩) 1 1])
                  clear sx
                  have sx := sx2
                  clear sx2
                  obtain ⟨g32, hg32⟩ : ∃ q, w78.heap.size = q := ⟨_, rfl⟩
                  rw [hg32] at sx ⊢
                  clear hg32
                  generalize World.alloc w78 _ = w79 at *
                  have hps : ∀ p ∈ ([(.slice (some ⟨g7, 0, none⟩) 1 1, [L1]), (.slice A10 I.length c10, I), (.slice A14 F1.length c14, F1), (.slice A18 F2.length c18, F2), (.slice A22 F3.length c22, F3), (.slice A25 E1.length c25, E1), (.slice (some ⟨g31, 0, none⟩) 1 1, [L2])] : List (Value × List ByteArray)), w79.ownsRow w.heap.size 9 1 p.1 p.2.length (strV p.2) := fun p hp => by
                    simp only [List.mem_cons, List.not_mem_nil, or_false] at hp
                    rcases hp with rfl | rfl | rfl | rfl | rfl | rfl | rfl <;> exact sx.out.2.1 _ (by repeat (first | (with_reducible exact List.mem_cons_self) | apply List.mem_cons_of_mem))
                  have HPS := Lib.hid hps
                  clear hps
                  refine rg_next (i := 33) (l := #[true, true, true, true, true, true, true, true, true, true, true, true, true, true, true, true, true, true, true, true, true, true, true, true, true, true, true, true, true, true, true, true, true, true, false, false]) (fuel := 2) (by kernel_rfl) rfl (by kernel_rfl) (by kernel_rfl) (fun K hK => ?_)
                  go_simp
                  go_at_call 55
                  refine (sconcat_any g32 7 7 w.heap.size [(.slice (some ⟨g7, 0, none⟩) 1 1, [L1]), (.slice A10 I.length c10, I), (.slice A14 F1.length c14, F1), (.slice A18 F2.length c18, F2), (.slice A22 F3.length c22, F3), (.slice A25 E1.length c25, E1), (.slice (some ⟨g31, 0, none⟩) 1 1, [L2])] rfl (by decide) (by decide) _ (sx.out.at_ g32 45 #[.slice (some ⟨g7, 0, none⟩) 1 1, .slice A10 I.length c10, .slice A14 F1.length c14, .slice A18 F2.length c18, .slice A22 F3.length c22, .slice A25 E1.length c25, .slice (some ⟨g31, 0, none⟩) 1 1] (by repeat (first | (with_reducible exact List.mem_cons_self) | apply List.mem_cons_of_mem))) HPS.out (by rw [HFL.out]; exact HLN.out.1) (by rw [HFL.out]; have := HLN.out.2; omega)).mono ?_
                  rw [HFL.out]
                  rintro e w80 ⟨vC, rfl, own, hb⟩
                  have OC := Lib.hid own
                  have sx2 := Lib.hid (sx.out.later hb)
                  clear sx hb own HPS
                  have sx := sx2
                  clear sx2
                  first | (refine hK.out _ _ ?_ (fun hHeld => ?_)) | (go_wp2_with fail; refine hK.out _ _ ?_ (fun hHeld => ?_))
                  · (try dsimp only); exact CE.out _ (sx.out.at_ x 27 #[.slice A n ca, .slice V a cv, .slice C b cc, .slice R c cr, .slice E m ce, .int .i64 bud] (by repeat (first | (with_reducible exact List.mem_cons_self) | apply List.mem_cons_of_mem)))
                  clear hK K
                  try simp only [Act.put, List.setIfInBounds_toArray, List.set_cons_zero, List.set_cons_succ]
                  refine rg_next (i := 34) (l := #[true, true, true, true, true, true, true, true, true, true, true, true, true, true, true, true, true, true, true, true, true, true, true, true, true, true, true, true, true, true, true, true, true, true, true, false]) (fuel := 1) (by kernel_rfl) rfl (by kernel_rfl) (by kernel_rfl) (fun K hK => ?_)
                  go_simp
                  go_at_call 54
                  refine (sccat_own OC.out HLN.out.1 (by have := HLN.out.2; omega) (by rw [← HTB.out]; exact HCS.out)).mono ?_
                  rw [← HTB.out]
                  rintro e w81 ⟨rfl, hb⟩
                  have sx2 := Lib.hid (sx.out.later hb)
                  clear sx hb
                  have sx := sx2
                  clear sx2
                  first | (refine hK.out _ _ ?_ (fun hHeld => ?_)) | (go_wp2_with fail; refine hK.out _ _ ?_ (fun hHeld => ?_))
                  · (try dsimp only); exact CE.out _ (sx.out.at_ x 27 #[.slice A n ca, .slice V a cv, .slice C b cc, .slice R c cr, .slice E m ce, .int .i64 bud] (by repeat (first | (with_reducible exact List.mem_cons_self) | apply List.mem_cons_of_mem)))
                  clear hK K
                  try simp only [Act.put, List.setIfInBounds_toArray, List.set_cons_zero, List.set_cons_succ]
                  refine rg_take (i := 35) (d := some 5) (l := #[true, true, true, true, true, true, true, true, true, true, true, true, true, true, true, true, true, true, true, true, true, true, true, true, true, true, true, true, true, true, true, true, true, true, true, true]) (fuel := 0) (v := ?_) rfl (by kernel_rfl) (by kernel_rfl) (by kernel_rfl) (by kernel_rfl) (by kernel_rfl) (fun _ _ _ h => h) (by kernel_rfl) ?_ (by assumption) ?_
                  rotate_left 1
                  · (intro wS hSw; (try dsimp only at hSw); go_simp; try with_reducible rfl)
                  try simp only [Act.put, List.setIfInBounds_toArray, List.set_cons_zero, List.set_cons_succ]
                  refine wpAnyH_done (by kernel_rfl) ?_ _
                  go_wp2_with fail
                  go_meet
                  case rel => exact ⟨rfl, sx.out.at_ (x + 1) 34 #[.int .i64 0, .int .i64 0] (by repeat (first | (with_reducible exact List.mem_cons_self) | apply List.mem_cons_of_mem)), sx.out.1⟩
                refine rg_step (i := 28) (l := #[true, true, true, true, true, true, true, false, true, true, true, true, true, true, true, true, true, true, true, true, true, true, true, true, true, true, true, true, true, false, false, false, false, false, false, false]) rfl (by kernel_rfl) (by kernel_rfl) ?_ ?_
                · intro K hK
                  go_simp
                  go_at_call 57
                  refine (K28.out _ sx.out.1).mono ?_
                  rintro e w82 ⟨rfl, hb⟩
                  have sx2 := Lib.hid (sx.out.later hb)
                  clear sx hb
                  have sx := sx2
                  clear sx2
                  first | (refine hK.out _ _ ?_ (fun hHeld => ?_)) | (go_wp2_with fail; refine hK.out _ _ ?_ (fun hHeld => ?_))
                  · (try dsimp only); exact CE.out _ (sx.out.at_ x 27 #[.slice A n ca, .slice V a cv, .slice C b cc, .slice R c cr, .slice E m ce, .int .i64 bud] (by repeat (first | (with_reducible exact List.mem_cons_self) | apply List.mem_cons_of_mem)))
                  clear hK K
                  try simp only [Act.put, List.setIfInBounds_toArray, List.set_cons_zero, List.set_cons_succ]
                  refine rg_of (rs := [7, 29]) (fuel := 7) (by kernel_rfl) rfl ?_
                  refine rg_step (i := 7) (l := #[true, true, true, true, true, true, true, true, true, true, true, true, true, true, true, true, true, true, true, true, true, true, true, true, true, true, true, true, true, false, false, false, false, false, false, false]) rfl (by kernel_rfl) (by kernel_rfl) ?_ ?_
                  · intro K hK
                    go_simp
                    skip
                    first | (refine hK.out _ _ ?_ (fun hHeld => ?_)) | (go_wp2_with fail; refine hK.out _ _ ?_ (fun hHeld => ?_))
                    · (try dsimp only); exact CE.out _ ((sx.out.one L1).at_ x 27 #[.slice A n ca, .slice V a cv, .slice C b cc, .slice R c cr, .slice E m ce, .int .i64 bud] (by repeat (first | (with_reducible exact List.mem_cons_self) | apply List.mem_cons_of_mem)))
                    clear hK K
                    try simp only [Act.put, List.setIfInBounds_toArray, List.set_cons_zero, List.set_cons_succ]
                    have sx2 := Lib.hid (sx.out.one L1)
                    clear sx
                    have sx := sx2
                    clear sx2
                    obtain ⟨g7, hg7⟩ : ∃ q, w82.heap.size = q := ⟨_, rfl⟩
                    rw [hg7] at sx ⊢
                    clear hg7
                    generalize World.alloc w82 _ = w83 at *
                    refine rg_next (i := 29) (l := #[true, true, true, true, true, true, true, true, true, true, true, true, true, true, true, true, true, true, true, true, true, true, true, true, true, true, true, true, true, true, false, false, false, false, false, false]) (fuel := 6) (by kernel_rfl) rfl (by kernel_rfl) (by kernel_rfl) (fun K hK => ?_)
                    go_simp
                    skip
                    first | (refine hK.out _ _ ?_ (fun hHeld => ?_)) | (go_wp2_with fail; refine hK.out _ _ ?_ (fun hHeld => ?_))
                    · (try dsimp only); exact CE.out _ ((sx.out.make 9 #[.string ⟨#[98, 117, 100, 103, 101, 116]⟩, .string D2]).at_ x 27 #[.slice A n ca, .slice V a cv, .slice C b cc, .slice R c cr, .slice E m ce, .int .i64 bud] (by repeat (first | (with_reducible exact List.mem_cons_self) | apply List.mem_cons_of_mem)))
                    clear hK K
                    try simp only [Act.put, List.setIfInBounds_toArray, List.set_cons_zero, List.set_cons_succ]
                    have sx2 := Lib.hid (sx.out.make 9 #[.string ⟨#[98, 117, 100, 103, 101, 116]⟩, .string D2])
                    clear sx
                    have sx := sx2
                    clear sx2
                    obtain ⟨g29, hg29⟩ : ∃ q, w83.heap.size = q := ⟨_, rfl⟩
                    rw [hg29] at sx ⊢
                    clear hg29
                    generalize World.alloc w83 _ = w84 at *
                    refine rg_next (i := 30) (l := #[true, true, true, true, true, true, true, true, true, true, true, true, true, true, true, true, true, true, true, true, true, true, true, true, true, true, true, true, true, true, true, false, false, false, false, false]) (fuel := 5) (by kernel_rfl) rfl (by kernel_rfl) (by kernel_rfl) (fun K hK => ?_)
                    go_simp
                    go_at_call 56
                    refine (scline2_any (sx.out.at_ g29 9 #[.string ⟨#[98, 117, 100, 103, 101, 116]⟩, .string D2] (by repeat (first | (with_reducible exact List.mem_cons_self) | apply List.mem_cons_of_mem))) (by decide) HD2.out).mono ?_
                    rw [HL2.out]
                    rintro e w85 ⟨rfl, hb⟩
                    have sx2 := Lib.hid (sx.out.later hb)
                    clear sx hb
                    have sx := sx2
                    clear sx2
                    first | (refine hK.out _ _ ?_ (fun hHeld => ?_)) | (go_wp2_with fail; refine hK.out _ _ ?_ (fun hHeld => ?_))
                    · (try dsimp only); exact CE.out _ (sx.out.at_ x 27 #[.slice A n ca, .slice V a cv, .slice C b cc, .slice R c cr, .slice E m ce, .int .i64 bud] (by repeat (first | (with_reducible exact List.mem_cons_self) | apply List.mem_cons_of_mem)))
                    clear hK K
                    try simp only [Act.put, List.setIfInBounds_toArray, List.set_cons_zero, List.set_cons_succ]
                    refine rg_next (i := 31) (l := #[true, true, true, true, true, true, true, true, true, true, true, true, true, true, true, true, true, true, true, true, true, true, true, true, true, true, true, true, true, true, true, true, false, false, false, false]) (fuel := 4) (by kernel_rfl) rfl (by kernel_rfl) (by kernel_rfl) (fun K hK => ?_)
                    go_simp
                    skip
                    first | (refine hK.out _ _ ?_ (fun hHeld => ?_)) | (go_wp2_with fail; refine hK.out _ _ ?_ (fun hHeld => ?_))
                    · (try dsimp only); exact CE.out _ ((sx.out.one L2).at_ x 27 #[.slice A n ca, .slice V a cv, .slice C b cc, .slice R c cr, .slice E m ce, .int .i64 bud] (by repeat (first | (with_reducible exact List.mem_cons_self) | apply List.mem_cons_of_mem)))
                    clear hK K
                    try simp only [Act.put, List.setIfInBounds_toArray, List.set_cons_zero, List.set_cons_succ]
                    have sx2 := Lib.hid (sx.out.one L2)
                    clear sx
                    have sx := sx2
                    clear sx2
                    obtain ⟨g31, hg31⟩ : ∃ q, w85.heap.size = q := ⟨_, rfl⟩
                    rw [hg31] at sx ⊢
                    clear hg31
                    generalize World.alloc w85 _ = w86 at *
                    refine rg_next (i := 32) (l := #[true, true, true, true, true, true, true, true, true, true, true, true, true, true, true, true, true, true, true, true, true, true, true, true, true, true, true, true, true, true, true, true, true, false, false, false]) (fuel := 3) (by kernel_rfl) rfl (by kernel_rfl) (by kernel_rfl) (fun K hK => ?_)
                    go_simp
                    skip
                    first | (refine hK.out _ _ ?_ (fun hHeld => ?_)) | (go_wp2_with fail; refine hK.out _ _ ?_ (fun hHeld => ?_))
                    · (try dsimp only); exact CE.out _ ((sx.out.make 45 #[.slice (some ⟨g7, 0, none⟩) 1 1, .slice A10 I.length c10, .slice A14 F1.length c14, .slice A18 F2.length c18, .slice A22 F3.length c22, .slice A25 E1.length c25, .slice (some ⟨g31, 0, none⟩) 1 1]).at_ x 27 #[.slice A n ca, .slice V a cv, .slice C b cc, .slice R c cr, .slice E m ce, .int .i64 bud] (by repeat (first | (with_reducible exact List.mem_cons_self) | apply List.mem_cons_of_mem)))
                    clear hK K
                    try simp only [Act.put, List.setIfInBounds_toArray, List.set_cons_zero, List.set_cons_succ]
                    have sx2 := Lib.hid (sx.out.make 45 #[.slice (some ⟨g7, 0, none⟩) 1 1, .slice A10 I.length c10, .slice A14 F1.length c14, .slice A18 F2.length c18, .slice A22 F3.length c22, .slice A25 E1.length c25, .slice (some ⟨g31, 0, none⟩) 1 1])
                    clear sx
                    have sx := sx2
                    clear sx2
                    obtain ⟨g32, hg32⟩ : ∃ q, w86.heap.size = q := ⟨_, rfl⟩
                    rw [hg32] at sx ⊢
                    clear hg32
                    generalize World.alloc w86 _ = w87 at *
                    have hps : ∀ p ∈ ([(.slice (some ⟨g7, 0, none⟩) 1 1, [L1]), (.slice A10 I.length c10, I), (.slice A14 F1.length c14, F1), (.slice A18 F2.length c18, F2), (.slice A22 F3.length c22, F3), (.slice A25 E1.length c25, E1), (.slice (some ⟨g31, 0, none⟩) 1 1, [L2])] : List (Value × List ByteArray)), w87.ownsRow w.heap.size 9 1 p.1 p.2.length (strV p.2) := fun p hp => by
                      simp only [List.mem_cons, List.not_mem_nil, or_false] at hp
                      rcases hp with rfl | rfl | rfl | rfl | rfl | rfl | rfl <;> exact sx.out.2.1 _ (by repeat (first | (with_reducible exact List.mem_cons_self) | apply List.mem_cons_of_mem))
                    have HPS := Lib.hid hps
                    clear hps
                    refine rg_next (i := 33) (l := #[true, true, true, true, true, true, true, true, true, true, true, true, true, true, true, true, true, true, true, true, true, true, true, true, true, true, true, true, true, true, true, true, true, true, false, false]) (fuel := 2) (by kernel_rfl) rfl (by kernel_rfl) (by kernel_rfl) (fun K hK => ?_)
                    go_simp
                    go_at_call 55
                    refine (sconcat_any g32 7 7 w.heap.size [(.slice (some ⟨g7, 0, none⟩) 1 1, [L1]), (.slice A10 I.length c10, I), (.slice A14 F1.length c14, F1), (.slice A18 F2.length c18, F2), (.slice A22 F3.length c22, F3), (.slice A25 E1.length c25, E1), (.slice (some ⟨g31, 0, none⟩) 1 1, [L2])] rfl (by decide) (by decide) _ (sx.out.at_ g32 45 #[.slice (some ⟨g7, 0, none⟩) 1 1, .slice A10 I.length c10, .slice A14 F1.length c14, .slice A18 F2.length c18, .slice A22 F3.length c22, .slice A25 E1.length c25, .slice (some ⟨g31, 0, none⟩) 1 1] (by repeat (first | (with_reducible exact List.mem_cons_self) | apply List.mem_cons_of_mem))) HPS.out (by rw [HFL.out]; exact HLN.out.1) (by rw [HFL.out]; have := HLN.out.2; omega)).mono ?_
                    rw [HFL.out]
                    rintro e w88 ⟨vC, rfl, own, hb⟩
                    have OC := Lib.hid own
                    have sx2 := Lib.hid (sx.out.later hb)
                    clear sx hb own HPS
                    have sx := sx2
                    clear sx2
                    first | (refine hK.out _ _ ?_ (fun hHeld => ?_)) | (go_wp2_with fail; refine hK.out _ _ ?_ (fun hHeld => ?_))
                    · (try dsimp only); exact CE.out _ (sx.out.at_ x 27 #[.slice A n ca, .slice V a cv, .slice C b cc, .slice R c cr, .slice E m ce, .int .i64 bud] (by repeat (first | (with_reducible exact List.mem_cons_self) | apply List.mem_cons_of_mem)))
                    clear hK K
                    try simp only [Act.put, List.setIfInBounds_toArray, List.set_cons_zero, List.set_cons_succ]
                    refine rg_next (i := 34) (l := #[true, true, true, true, true, true, true, true, true, true, true, true, true, true, true, true, true, true, true, true, true, true, true, true, true, true, true, true, true, true, true, true, true, true, true, false]) (fuel := 1) (by kernel_rfl) rfl (by kernel_rfl) (by kernel_rfl) (fun K hK => ?_)
                    go_simp
                    go_at_call 54
                    refine (sccat_own OC.out HLN.out.1 (by have := HLN.out.2; omega) (by rw [← HTB.out]; exact HCS.out)).mono ?_
                    rw [← HTB.out]
                    rintro e w89 ⟨rfl, hb⟩
                    have sx2 := Lib.hid (sx.out.later hb)
                    clear sx hb
                    have sx := sx2
                    clear sx2
                    first | (refine hK.out _ _ ?_ (fun hHeld => ?_)) | (go_wp2_with fail; refine hK.out _ _ ?_ (fun hHeld => ?_))
                    · (try dsimp only); exact CE.out _ (sx.out.at_ x 27 #[.slice A n ca, .slice V a cv, .slice C b cc, .slice R c cr, .slice E m ce, .int .i64 bud] (by repeat (first | (with_reducible exact List.mem_cons_self) | apply List.mem_cons_of_mem)))
                    clear hK K
                    try simp only [Act.put, List.setIfInBounds_toArray, List.set_cons_zero, List.set_cons_succ]
                    refine rg_take (i := 35) (d := some 5) (l := #[true, true, true, true, true, true, true, true, true, true, true, true, true, true, true, true, true, true, true, true, true, true, true, true, true, true, true, true, true, true, true, true, true, true, true, true]) (fuel := 0) (v := ?_) rfl (by kernel_rfl) (by kernel_rfl) (by kernel_rfl) (by kernel_rfl) (by kernel_rfl) (fun _ _ _ h => h) (by kernel_rfl) ?_ (by assumption) ?_
                    rotate_left 1
                    · (intro wS hSw; (try dsimp only at hSw); go_simp; try with_reducible rfl)
                    try simp only [Act.put, List.setIfInBounds_toArray, List.set_cons_zero, List.set_cons_succ]
                    refine wpAnyH_done (by kernel_rfl) ?_ _
                    go_wp2_with fail
                    go_meet
                    case rel => exact ⟨rfl, sx.out.at_ (x + 1) 34 #[.int .i64 0, .int .i64 0] (by repeat (first | (with_reducible exact List.mem_cons_self) | apply List.mem_cons_of_mem)), sx.out.1⟩
                  refine rg_step (i := 29) (l := #[true, true, true, true, true, true, true, false, true, true, true, true, true, true, true, true, true, true, true, true, true, true, true, true, true, true, true, true, true, true, false, false, false, false, false, false]) rfl (by kernel_rfl) (by kernel_rfl) ?_ ?_
                  · intro K hK
                    go_simp
                    skip
                    first | (refine hK.out _ _ ?_ (fun hHeld => ?_)) | (go_wp2_with fail; refine hK.out _ _ ?_ (fun hHeld => ?_))
                    · (try dsimp only); exact CE.out _ ((sx.out.make 9 #[.string ⟨#[98, 117, 100, 103, 101, 116]⟩, .string D2]).at_ x 27 #[.slice A n ca, .slice V a cv, .slice C b cc, .slice R c cr, .slice E m ce, .int .i64 bud] (by repeat (first | (with_reducible exact List.mem_cons_self) | apply List.mem_cons_of_mem)))
                    clear hK K
                    try simp only [Act.put, List.setIfInBounds_toArray, List.set_cons_zero, List.set_cons_succ]
                    have sx2 := Lib.hid (sx.out.make 9 #[.string ⟨#[98, 117, 100, 103, 101, 116]⟩, .string D2])
                    clear sx
                    have sx := sx2
                    clear sx2
                    obtain ⟨g29, hg29⟩ : ∃ q, w82.heap.size = q := ⟨_, rfl⟩
                    rw [hg29] at sx ⊢
                    clear hg29
                    generalize World.alloc w82 _ = w90 at *
                    refine rg_of (rs := [7, 30]) (fuel := 6) (by kernel_rfl) rfl ?_
                    refine rg_step (i := 7) (l := #[true, true, true, true, true, true, true, true, true, true, true, true, true, true, true, true, true, true, true, true, true, true, true, true, true, true, true, true, true, true, false, false, false, false, false, false]) rfl (by kernel_rfl) (by kernel_rfl) ?_ ?_
                    · intro K hK
                      go_simp
                      skip
                      first | (refine hK.out _ _ ?_ (fun hHeld => ?_)) | (go_wp2_with fail; refine hK.out _ _ ?_ (fun hHeld => ?_))
                      · (try dsimp only); exact CE.out _ ((sx.out.one L1).at_ x 27 #[.slice A n ca, .slice V a cv, .slice C b cc, .slice R c cr, .slice E m ce, .int .i64 bud] (by repeat (first | (with_reducible exact List.mem_cons_self) | apply List.mem_cons_of_mem)))
                      clear hK K
                      try simp only [Act.put, List.setIfInBounds_toArray, List.set_cons_zero, List.set_cons_succ]
                      have sx2 := Lib.hid (sx.out.one L1)
                      clear sx
                      have sx := sx2
                      clear sx2
                      obtain ⟨g7, hg7⟩ : ∃ q, w90.heap.size = q := ⟨_, rfl⟩
                      rw [hg7] at sx ⊢
                      clear hg7
                      generalize World.alloc w90 _ = w91 at *
                      refine rg_next (i := 30) (l := #[true, true, true, true, true, true, true, true, true, true, true, true, true, true, true, true, true, true, true, true, true, true, true, true, true, true, true, true, true, true, true, false, false, false, false, false]) (fuel := 5) (by kernel_rfl) rfl (by kernel_rfl) (by kernel_rfl) (fun K hK => ?_)
                      go_simp
                      go_at_call 56
                      refine (scline2_any (sx.out.at_ g29 9 #[.string ⟨#[98, 117, 100, 103, 101, 116]⟩, .string D2] (by repeat (first | (with_reducible exact List.mem_cons_self) | apply List.mem_cons_of_mem))) (by decide) HD2.out).mono ?_
                      rw [HL2.out]
                      rintro e w92 ⟨rfl, hb⟩
                      have sx2 := Lib.hid (sx.out.later hb)
                      clear sx hb
                      have sx := sx2
                      clear sx2
                      first | (refine hK.out _ _ ?_ (fun hHeld => ?_)) | (go_wp2_with fail; refine hK.out _ _ ?_ (fun hHeld => ?_))
                      · (try dsimp only); exact CE.out _ (sx.out.at_ x 27 #[.slice A n ca, .slice V a cv, .slice C b cc, .slice R c cr, .slice E m ce, .int .i64 bud] (by repeat (first | (with_reducible exact List.mem_cons_self) | apply List.mem_cons_of_mem)))
                      clear hK K
                      try simp only [Act.put, List.setIfInBounds_toArray, List.set_cons_zero, List.set_cons_succ]
                      refine rg_next (i := 31) (l := #[true, true, true, true, true, true, true, true, true, true, true, true, true, true, true, true, true, true, true, true, true, true, true, true, true, true, true, true, true, true, true, true, false, false, false, false]) (fuel := 4) (by kernel_rfl) rfl (by kernel_rfl) (by kernel_rfl) (fun K hK => ?_)
                      go_simp
                      skip
                      first | (refine hK.out _ _ ?_ (fun hHeld => ?_)) | (go_wp2_with fail; refine hK.out _ _ ?_ (fun hHeld => ?_))
                      · (try dsimp only); exact CE.out _ ((sx.out.one L2).at_ x 27 #[.slice A n ca, .slice V a cv, .slice C b cc, .slice R c cr, .slice E m ce, .int .i64 bud] (by repeat (first | (with_reducible exact List.mem_cons_self) | apply List.mem_cons_of_mem)))
                      clear hK K
                      try simp only [Act.put, List.setIfInBounds_toArray, List.set_cons_zero, List.set_cons_succ]
                      have sx2 := Lib.hid (sx.out.one L2)
                      clear sx
                      have sx := sx2
                      clear sx2
                      obtain ⟨g31, hg31⟩ : ∃ q, w92.heap.size = q := ⟨_, rfl⟩
                      rw [hg31] at sx ⊢
                      clear hg31
                      generalize World.alloc w92 _ = w93 at *
                      refine rg_next (i := 32) (l := #[true, true, true, true, true, true, true, true, true, true, true, true, true, true, true, true, true, true, true, true, true, true, true, true, true, true, true, true, true, true, true, true, true, false, false, false]) (fuel := 3) (by kernel_rfl) rfl (by kernel_rfl) (by kernel_rfl) (fun K hK => ?_)
                      go_simp
                      skip
                      first | (refine hK.out _ _ ?_ (fun hHeld => ?_)) | (go_wp2_with fail; refine hK.out _ _ ?_ (fun hHeld => ?_))
                      · (try dsimp only); exact CE.out _ ((sx.out.make 45 #[.slice (some ⟨g7, 0, none⟩) 1 1, .slice A10 I.length c10, .slice A14 F1.length c14, .slice A18 F2.length c18, .slice A22 F3.length c22, .slice A25 E1.length c25, .slice (some ⟨g31, 0, none⟩) 1 1]).at_ x 27 #[.slice A n ca, .slice V a cv, .slice C b cc, .slice R c cr, .slice E m ce, .int .i64 bud] (by repeat (first | (with_reducible exact List.mem_cons_self) | apply List.mem_cons_of_mem)))
                      clear hK K
                      try simp only [Act.put, List.setIfInBounds_toArray, List.set_cons_zero, List.set_cons_succ]
                      have sx2 := Lib.hid (sx.out.make 45 #[.slice (some ⟨g7, 0, none⟩) 1 1, .slice A10 I.length c10, .slice A14 F1.length c14, .slice A18 F2.length c18, .slice A22 F3.length c22, .slice A25 E1.length c25, .slice (some ⟨g31, 0, none⟩) 1 1])
                      clear sx
                      have sx := sx2
                      clear sx2
                      obtain ⟨g32, hg32⟩ : ∃ q, w93.heap.size = q := ⟨_, rfl⟩
                      rw [hg32] at sx ⊢
                      clear hg32
                      generalize World.alloc w93 _ = w94 at *
                      have hps : ∀ p ∈ ([(.slice (some ⟨g7, 0, none⟩) 1 1, [L1]), (.slice A10 I.length c10, I), (.slice A14 F1.length c14, F1), (.slice A18 F2.length c18, F2), (.slice A22 F3.length c22, F3), (.slice A25 E1.length c25, E1), (.slice (some ⟨g31, 0, none⟩) 1 1, [L2])] : List (Value × List ByteArray)), w94.ownsRow w.heap.size 9 1 p.1 p.2.length (strV p.2) := fun p hp => by
                        simp only [List.mem_cons, List.not_mem_nil, or_false] at hp
                        rcases hp with rfl | rfl | rfl | rfl | rfl | rfl | rfl <;> exact sx.out.2.1 _ (by repeat (first | (with_reducible exact List.mem_cons_self) | apply List.mem_cons_of_mem))
                      have HPS := Lib.hid hps
                      clear hps
                      refine rg_next (i := 33) (l := #[true, true, true, true, true, true, true, true, true, true, true, true, true, true, true, true, true, true, true, true, true, true, true, true, true, true, true, true, true, true, true, true, true, true, false, false]) (fuel := 2) (by kernel_rfl) rfl (by kernel_rfl) (by kernel_rfl) (fun K hK => ?_)
                      go_simp
                      go_at_call 55
                      refine (sconcat_any g32 7 7 w.heap.size [(.slice (some ⟨g7, 0, none⟩) 1 1, [L1]), (.slice A10 I.length c10, I), (.slice A14 F1.length c14, F1), (.slice A18 F2.length c18, F2), (.slice A22 F3.length c22, F3), (.slice A25 E1.length c25, E1), (.slice (some ⟨g31, 0, none⟩) 1 1, [L2])] rfl (by decide) (by decide) _ (sx.out.at_ g32 45 #[.slice (some ⟨g7, 0, none⟩) 1 1, .slice A10 I.length c10, .slice A14 F1.length c14, .slice A18 F2.length c18, .slice A22 F3.length c22, .slice A25 E1.length c25, .slice (some ⟨g31, 0, none⟩) 1 1] (by repeat (first | (with_reducible exact List.mem_cons_self) | apply List.mem_cons_of_mem))) HPS.out (by rw [HFL.out]; exact HLN.out.1) (by rw [HFL.out]; have := HLN.out.2; omega)).mono ?_
                      rw [HFL.out]
                      rintro e w95 ⟨vC, rfl, own, hb⟩
                      have OC := Lib.hid own
                      have sx2 := Lib.hid (sx.out.later hb)
                      clear sx hb own HPS
                      have sx := sx2
                      clear sx2
                      first | (refine hK.out _ _ ?_ (fun hHeld => ?_)) | (go_wp2_with fail; refine hK.out _ _ ?_ (fun hHeld => ?_))
                      · (try dsimp only); exact CE.out _ (sx.out.at_ x 27 #[.slice A n ca, .slice V a cv, .slice C b cc, .slice R c cr, .slice E m ce, .int .i64 bud] (by repeat (first | (with_reducible exact List.mem_cons_self) | apply List.mem_cons_of_mem)))
                      clear hK K
                      try simp only [Act.put, List.setIfInBounds_toArray, List.set_cons_zero, List.set_cons_succ]
                      refine rg_next (i := 34) (l := #[true, true, true, true, true, true, true, true, true, true, true, true, true, true, true, true, true, true, true, true, true, true, true, true, true, true, true, true, true, true, true, true, true, true, true, false]) (fuel := 1) (by kernel_rfl) rfl (by kernel_rfl) (by kernel_rfl) (fun K hK => ?_)
                      go_simp
                      go_at_call 54
                      refine (sccat_own OC.out HLN.out.1 (by have := HLN.out.2; omega) (by rw [← HTB.out]; exact HCS.out)).mono ?_
                      rw [← HTB.out]
                      rintro e w96 ⟨rfl, hb⟩
                      have sx2 := Lib.hid (sx.out.later hb)
                      clear sx hb
                      have sx := sx2
                      clear sx2
                      first | (refine hK.out _ _ ?_ (fun hHeld => ?_)) | (go_wp2_with fail; refine hK.out _ _ ?_ (fun hHeld => ?_))
                      · (try dsimp only); exact CE.out _ (sx.out.at_ x 27 #[.slice A n ca, .slice V a cv, .slice C b cc, .slice R c cr, .slice E m ce, .int .i64 bud] (by repeat (first | (with_reducible exact List.mem_cons_self) | apply List.mem_cons_of_mem)))
                      clear hK K
                      try simp only [Act.put, List.setIfInBounds_toArray, List.set_cons_zero, List.set_cons_succ]
                      refine rg_take (i := 35) (d := some 5) (l := #[true, true, true, true, true, true, true, true, true, true, true, true, true, true, true, true, true, true, true, true, true, true, true, true, true, true, true, true, true, true, true, true, true, true, true, true]) (fuel := 0) (v := ?_) rfl (by kernel_rfl) (by kernel_rfl) (by kernel_rfl) (by kernel_rfl) (by kernel_rfl) (fun _ _ _ h => h) (by kernel_rfl) ?_ (by assumption) ?_
                      rotate_left 1
                      · (intro wS hSw; (try dsimp only at hSw); go_simp; try with_reducible rfl)
                      try simp only [Act.put, List.setIfInBounds_toArray, List.set_cons_zero, List.set_cons_succ]
                      refine wpAnyH_done (by kernel_rfl) ?_ _
                      go_wp2_with fail
                      go_meet
                      case rel => exact ⟨rfl, sx.out.at_ (x + 1) 34 #[.int .i64 0, .int .i64 0] (by repeat (first | (with_reducible exact List.mem_cons_self) | apply List.mem_cons_of_mem)), sx.out.1⟩
                    refine rg_step (i := 30) (l := #[true, true, true, true, true, true, true, false, true, true, true, true, true, true, true, true, true, true, true, true, true, true, true, true, true, true, true, true, true, true, true, false, false, false, false, false]) rfl (by kernel_rfl) (by kernel_rfl) ?_ ?_
                    · intro K hK
                      go_simp
                      go_at_call 56
                      refine (scline2_any (sx.out.at_ g29 9 #[.string ⟨#[98, 117, 100, 103, 101, 116]⟩, .string D2] (by repeat (first | (with_reducible exact List.mem_cons_self) | apply List.mem_cons_of_mem))) (by decide) HD2.out).mono ?_
                      rw [HL2.out]
                      rintro e w97 ⟨rfl, hb⟩
                      have sx2 := Lib.hid (sx.out.later hb)
                      clear sx hb
                      have sx := sx2
                      clear sx2
                      first | (refine hK.out _ _ ?_ (fun hHeld => ?_)) | (go_wp2_with fail; refine hK.out _ _ ?_ (fun hHeld => ?_))
                      · (try dsimp only); exact CE.out _ (sx.out.at_ x 27 #[.slice A n ca, .slice V a cv, .slice C b cc, .slice R c cr, .slice E m ce, .int .i64 bud] (by repeat (first | (with_reducible exact List.mem_cons_self) | apply List.mem_cons_of_mem)))
                      clear hK K
                      try simp only [Act.put, List.setIfInBounds_toArray, List.set_cons_zero, List.set_cons_succ]
                      refine rg_of (rs := [7, 31]) (fuel := 5) (by kernel_rfl) rfl ?_
                      refine rg_step (i := 7) (l := #[true, true, true, true, true, true, true, true, true, true, true, true, true, true, true, true, true, true, true, true, true, true, true, true, true, true, true, true, true, true, true, false, false, false, false, false]) rfl (by kernel_rfl) (by kernel_rfl) ?_ ?_
                      · intro K hK
                        go_simp
                        skip
                        first | (refine hK.out _ _ ?_ (fun hHeld => ?_)) | (go_wp2_with fail; refine hK.out _ _ ?_ (fun hHeld => ?_))
                        · (try dsimp only); exact CE.out _ ((sx.out.one L1).at_ x 27 #[.slice A n ca, .slice V a cv, .slice C b cc, .slice R c cr, .slice E m ce, .int .i64 bud] (by repeat (first | (with_reducible exact List.mem_cons_self) | apply List.mem_cons_of_mem)))
                        clear hK K
                        try simp only [Act.put, List.setIfInBounds_toArray, List.set_cons_zero, List.set_cons_succ]
                        have sx2 := Lib.hid (sx.out.one L1)
                        clear sx
                        have sx := sx2
                        clear sx2
                        obtain ⟨g7, hg7⟩ : ∃ q, w97.heap.size = q := ⟨_, rfl⟩
                        rw [hg7] at sx ⊢
                        clear hg7
                        generalize World.alloc w97 _ = w98 at *
                        refine rg_next (i := 31) (l := #[true, true, true, true, true, true, true, true, true, true, true, true, true, true, true, true, true, true, true, true, true, true, true, true, true, true, true, true, true, true, true, true, false, false, false, false]) (fuel := 4) (by kernel_rfl) rfl (by kernel_rfl) (by kernel_rfl) (fun K hK => ?_)
                        go_simp
                        skip
                        first | (refine hK.out _ _ ?_ (fun hHeld => ?_)) | (go_wp2_with fail; refine hK.out _ _ ?_ (fun hHeld => ?_))
                        · (try dsimp only); exact CE.out _ ((sx.out.one L2).at_ x 27 #[.slice A n ca, .slice V a cv, .slice C b cc, .slice R c cr, .slice E m ce, .int .i64 bud] (by repeat (first | (with_reducible exact List.mem_cons_self) | apply List.mem_cons_of_mem)))
                        clear hK K
                        try simp only [Act.put, List.setIfInBounds_toArray, List.set_cons_zero, List.set_cons_succ]
                        have sx2 := Lib.hid (sx.out.one L2)
                        clear sx
                        have sx := sx2
                        clear sx2
                        obtain ⟨g31, hg31⟩ : ∃ q, w98.heap.size = q := ⟨_, rfl⟩
                        rw [hg31] at sx ⊢
                        clear hg31
                        generalize World.alloc w98 _ = w99 at *
                        refine rg_next (i := 32) (l := #[true, true, true, true, true, true, true, true, true, true, true, true, true, true, true, true, true, true, true, true, true, true, true, true, true, true, true, true, true, true, true, true, true, false, false, false]) (fuel := 3) (by kernel_rfl) rfl (by kernel_rfl) (by kernel_rfl) (fun K hK => ?_)
                        go_simp
                        skip
                        first | (refine hK.out _ _ ?_ (fun hHeld => ?_)) | (go_wp2_with fail; refine hK.out _ _ ?_ (fun hHeld => ?_))
                        · (try dsimp only); exact CE.out _ ((sx.out.make 45 #[.slice (some ⟨g7, 0, none⟩) 1 1, .slice A10 I.length c10, .slice A14 F1.length c14, .slice A18 F2.length c18, .slice A22 F3.length c22, .slice A25 E1.length c25, .slice (some ⟨g31, 0, none⟩) 1 1]).at_ x 27 #[.slice A n ca, .slice V a cv, .slice C b cc, .slice R c cr, .slice E m ce, .int .i64 bud] (by repeat (first | (with_reducible exact List.mem_cons_self) | apply List.mem_cons_of_mem)))
                        clear hK K
                        try simp only [Act.put, List.setIfInBounds_toArray, List.set_cons_zero, List.set_cons_succ]
                        have sx2 := Lib.hid (sx.out.make 45 #[.slice (some ⟨g7, 0, none⟩) 1 1, .slice A10 I.length c10, .slice A14 F1.length c14, .slice A18 F2.length c18, .slice A22 F3.length c22, .slice A25 E1.length c25, .slice (some ⟨g31, 0, none⟩) 1 1])
                        clear sx
                        have sx := sx2
                        clear sx2
                        obtain ⟨g32, hg32⟩ : ∃ q, w99.heap.size = q := ⟨_, rfl⟩
                        rw [hg32] at sx ⊢
                        clear hg32
                        generalize World.alloc w99 _ = w100 at *
                        have hps : ∀ p ∈ ([(.slice (some ⟨g7, 0, none⟩) 1 1, [L1]), (.slice A10 I.length c10, I), (.slice A14 F1.length c14, F1), (.slice A18 F2.length c18, F2), (.slice A22 F3.length c22, F3), (.slice A25 E1.length c25, E1), (.slice (some ⟨g31, 0, none⟩) 1 1, [L2])] : List (Value × List ByteArray)), w100.ownsRow w.heap.size 9 1 p.1 p.2.length (strV p.2) := fun p hp => by
                          simp only [List.mem_cons, List.not_mem_nil, or_false] at hp
                          rcases hp with rfl | rfl | rfl | rfl | rfl | rfl | rfl <;> exact sx.out.2.1 _ (by repeat (first | (with_reducible exact List.mem_cons_self) | apply List.mem_cons_of_mem))
                        have HPS := Lib.hid hps
                        clear hps
                        refine rg_next (i := 33) (l := #[true, true, true, true, true, true, true, true, true, true, true, true, true, true, true, true, true, true, true, true, true, true, true, true, true, true, true, true, true, true, true, true, true, true, false, false]) (fuel := 2) (by kernel_rfl) rfl (by kernel_rfl) (by kernel_rfl) (fun K hK => ?_)
                        go_simp
                        go_at_call 55
                        refine (sconcat_any g32 7 7 w.heap.size [(.slice (some ⟨g7, 0, none⟩) 1 1, [L1]), (.slice A10 I.length c10, I), (.slice A14 F1.length c14, F1), (.slice A18 F2.length c18, F2), (.slice A22 F3.length c22, F3), (.slice A25 E1.length c25, E1), (.slice (some ⟨g31, 0, none⟩) 1 1, [L2])] rfl (by decide) (by decide) _ (sx.out.at_ g32 45 #[.slice (some ⟨g7, 0, none⟩) 1 1, .slice A10 I.length c10, .slice A14 F1.length c14, .slice A18 F2.length c18, .slice A22 F3.length c22, .slice A25 E1.length c25, .slice (some ⟨g31, 0, none⟩) 1 1] (by repeat (first | (with_reducible exact List.mem_cons_self) | apply List.mem_cons_of_mem))) HPS.out (by rw [HFL.out]; exact HLN.out.1) (by rw [HFL.out]; have := HLN.out.2; omega)).mono ?_
                        rw [HFL.out]
                        rintro e w101 ⟨vC, rfl, own, hb⟩
                        have OC := Lib.hid own
                        have sx2 := Lib.hid (sx.out.later hb)
                        clear sx hb own HPS
                        have sx := sx2
                        clear sx2
                        first | (refine hK.out _ _ ?_ (fun hHeld => ?_)) | (go_wp2_with fail; refine hK.out _ _ ?_ (fun hHeld => ?_))
                        · (try dsimp only); exact CE.out _ (sx.out.at_ x 27 #[.slice A n ca, .slice V a cv, .slice C b cc, .slice R c cr, .slice E m ce, .int .i64 bud] (by repeat (first | (with_reducible exact List.mem_cons_self) | apply List.mem_cons_of_mem)))
                        clear hK K
                        try simp only [Act.put, List.setIfInBounds_toArray, List.set_cons_zero, List.set_cons_succ]
                        refine rg_next (i := 34) (l := #[true, true, true, true, true, true, true, true, true, true, true, true, true, true, true, true, true, true, true, true, true, true, true, true, true, true, true, true, true, true, true, true, true, true, true, false]) (fuel := 1) (by kernel_rfl) rfl (by kernel_rfl) (by kernel_rfl) (fun K hK => ?_)
                        go_simp
                        go_at_call 54
                        refine (sccat_own OC.out HLN.out.1 (by have := HLN.out.2; omega) (by rw [← HTB.out]; exact HCS.out)).mono ?_
                        rw [← HTB.out]
                        rintro e w102 ⟨rfl, hb⟩
                        have sx2 := Lib.hid (sx.out.later hb)
                        clear sx hb
                        have sx := sx2
                        clear sx2
                        first | (refine hK.out _ _ ?_ (fun hHeld => ?_)) | (go_wp2_with fail; refine hK.out _ _ ?_ (fun hHeld => ?_))
                        · (try dsimp only); exact CE.out _ (sx.out.at_ x 27 #[.slice A n ca, .slice V a cv, .slice C b cc, .slice R c cr, .slice E m ce, .int .i64 bud] (by repeat (first | (with_reducible exact List.mem_cons_self) | apply List.mem_cons_of_mem)))
                        clear hK K
                        try simp only [Act.put, List.setIfInBounds_toArray, List.set_cons_zero, List.set_cons_succ]
                        refine rg_take (i := 35) (d := some 5) (l := #[true, true, true, true, true, true, true, true, true, true, true, true, true, true, true, true, true, true, true, true, true, true, true, true, true, true, true, true, true, true, true, true, true, true, true, true]) (fuel := 0) (v := ?_) rfl (by kernel_rfl) (by kernel_rfl) (by kernel_rfl) (by kernel_rfl) (by kernel_rfl) (fun _ _ _ h => h) (by kernel_rfl) ?_ (by assumption) ?_
                        rotate_left 1
                        · (intro wS hSw; (try dsimp only at hSw); go_simp; try with_reducible rfl)
                        try simp only [Act.put, List.setIfInBounds_toArray, List.set_cons_zero, List.set_cons_succ]
                        refine wpAnyH_done (by kernel_rfl) ?_ _
                        go_wp2_with fail
                        go_meet
                        case rel => exact ⟨rfl, sx.out.at_ (x + 1) 34 #[.int .i64 0, .int .i64 0] (by repeat (first | (with_reducible exact List.mem_cons_self) | apply List.mem_cons_of_mem)), sx.out.1⟩
                      refine rg_step (i := 31) (l := #[true, true, true, true, true, true, true, false, true, true, true, true, true, true, true, true, true, true, true, true, true, true, true, true, true, true, true, true, true, true, true, true, false, false, false, false]) rfl (by kernel_rfl) (by kernel_rfl) ?_ ?_
                      · intro K hK
                        go_simp
                        skip
                        first | (refine hK.out _ _ ?_ (fun hHeld => ?_)) | (go_wp2_with fail; refine hK.out _ _ ?_ (fun hHeld => ?_))
                        · (try dsimp only); exact CE.out _ ((sx.out.one L2).at_ x 27 #[.slice A n ca, .slice V a cv, .slice C b cc, .slice R c cr, .slice E m ce, .int .i64 bud] (by repeat (first | (with_reducible exact List.mem_cons_self) | apply List.mem_cons_of_mem)))
                        clear hK K
                        try simp only [Act.put, List.setIfInBounds_toArray, List.set_cons_zero, List.set_cons_succ]
                        have sx2 := Lib.hid (sx.out.one L2)
                        clear sx
                        have sx := sx2
                        clear sx2
                        obtain ⟨g31, hg31⟩ : ∃ q, w97.heap.size = q := ⟨_, rfl⟩
                        rw [hg31] at sx ⊢
                        clear hg31
                        generalize World.alloc w97 _ = w103 at *
                        refine rg_next (i := 7) (l := #[true, true, true, true, true, true, true, true, true, true, true, true, true, true, true, true, true, true, true, true, true, true, true, true, true, true, true, true, true, true, true, true, false, false, false, false]) (fuel := 4) (by kernel_rfl) rfl (by kernel_rfl) (by kernel_rfl) (fun K hK => ?_)
                        go_simp
                        skip
                        first | (refine hK.out _ _ ?_ (fun hHeld => ?_)) | (go_wp2_with fail; refine hK.out _ _ ?_ (fun hHeld => ?_))
                        · (try dsimp only); exact CE.out _ ((sx.out.one L1).at_ x 27 #[.slice A n ca, .slice V a cv, .slice C b cc, .slice R c cr, .slice E m ce, .int .i64 bud] (by repeat (first | (with_reducible exact List.mem_cons_self) | apply List.mem_cons_of_mem)))
                        clear hK K
                        try simp only [Act.put, List.setIfInBounds_toArray, List.set_cons_zero, List.set_cons_succ]
                        have sx2 := Lib.hid (sx.out.one L1)
                        clear sx
                        have sx := sx2
                        clear sx2
                        obtain ⟨g7, hg7⟩ : ∃ q, w103.heap.size = q := ⟨_, rfl⟩
                        rw [hg7] at sx ⊢
                        clear hg7
                        generalize World.alloc w103 _ = w104 at *
                        refine rg_next (i := 32) (l := #[true, true, true, true, true, true, true, true, true, true, true, true, true, true, true, true, true, true, true, true, true, true, true, true, true, true, true, true, true, true, true, true, true, false, false, false]) (fuel := 3) (by kernel_rfl) rfl (by kernel_rfl) (by kernel_rfl) (fun K hK => ?_)
                        go_simp
                        skip
                        first | (refine hK.out _ _ ?_ (fun hHeld => ?_)) | (go_wp2_with fail; refine hK.out _ _ ?_ (fun hHeld => ?_))
                        · (try dsimp only); exact CE.out _ ((sx.out.make 45 #[.slice (some ⟨g7, 0, none⟩) 1 1, .slice A10 I.length c10, .slice A14 F1.length c14, .slice A18 F2.length c18, .slice A22 F3.length c22, .slice A25 E1.length c25, .slice (some ⟨g31, 0, none⟩) 1 1]).at_ x 27 #[.slice A n ca, .slice V a cv, .slice C b cc, .slice R c cr, .slice E m ce, .int .i64 bud] (by repeat (first | (with_reducible exact List.mem_cons_self) | apply List.mem_cons_of_mem)))
                        clear hK K
                        try simp only [Act.put, List.setIfInBounds_toArray, List.set_cons_zero, List.set_cons_succ]
                        have sx2 := Lib.hid (sx.out.make 45 #[.slice (some ⟨g7, 0, none⟩) 1 1, .slice A10 I.length c10, .slice A14 F1.length c14, .slice A18 F2.length c18, .slice A22 F3.length c22, .slice A25 E1.length c25, .slice (some ⟨g31, 0, none⟩) 1 1])
                        clear sx
                        have sx := sx2
                        clear sx2
                        obtain ⟨g32, hg32⟩ : ∃ q, w104.heap.size = q := ⟨_, rfl⟩
                        rw [hg32] at sx ⊢
                        clear hg32
                        generalize World.alloc w104 _ = w105 at *
                        have hps : ∀ p ∈ ([(.slice (some ⟨g7, 0, none⟩) 1 1, [L1]), (.slice A10 I.length c10, I), (.slice A14 F1.length c14, F1), (.slice A18 F2.length c18, F2), (.slice A22 F3.length c22, F3), (.slice A25 E1.length c25, E1), (.slice (some ⟨g31, 0, none⟩) 1 1, [L2])] : List (Value × List ByteArray)), w105.ownsRow w.heap.size 9 1 p.1 p.2.length (strV p.2) := fun p hp => by
                          simp only [List.mem_cons, List.not_mem_nil, or_false] at hp
                          rcases hp with rfl | rfl | rfl | rfl | rfl | rfl | rfl <;> exact sx.out.2.1 _ (by repeat (first | (with_reducible exact List.mem_cons_self) | apply List.mem_cons_of_mem))
                        have HPS := Lib.hid hps
                        clear hps
                        refine rg_next (i := 33) (l := #[true, true, true, true, true, true, true, true, true, true, true, true, true, true, true, true, true, true, true, true, true, true, true, true, true, true, true, true, true, true, true, true, true, true, false, false]) (fuel := 2) (by kernel_rfl) rfl (by kernel_rfl) (by kernel_rfl) (fun K hK => ?_)
                        go_simp
                        go_at_call 55
                        refine (sconcat_any g32 7 7 w.heap.size [(.slice (some ⟨g7, 0, none⟩) 1 1, [L1]), (.slice A10 I.length c10, I), (.slice A14 F1.length c14, F1), (.slice A18 F2.length c18, F2), (.slice A22 F3.length c22, F3), (.slice A25 E1.length c25, E1), (.slice (some ⟨g31, 0, none⟩) 1 1, [L2])] rfl (by decide) (by decide) _ (sx.out.at_ g32 45 #[.slice (some ⟨g7, 0, none⟩) 1 1, .slice A10 I.length c10, .slice A14 F1.length c14, .slice A18 F2.length c18, .slice A22 F3.length c22, .slice A25 E1.length c25, .slice (some ⟨g31, 0, none⟩) 1 1] (by repeat (first | (with_reducible exact List.mem_cons_self) | apply List.mem_cons_of_mem))) HPS.out (by rw [HFL.out]; exact HLN.out.1) (by rw [HFL.out]; have := HLN.out.2; omega)).mono ?_
                        rw [HFL.out]
                        rintro e w106 ⟨vC, rfl, own, hb⟩
                        have OC := Lib.hid own
                        have sx2 := Lib.hid (sx.out.later hb)
                        clear sx hb own HPS
                        have sx := sx2
                        clear sx2
                        first | (refine hK.out _ _ ?_ (fun hHeld => ?_)) | (go_wp2_with fail; refine hK.out _ _ ?_ (fun hHeld => ?_))
                        · (try dsimp only); exact CE.out _ (sx.out.at_ x 27 #[.slice A n ca, .slice V a cv, .slice C b cc, .slice R c cr, .slice E m ce, .int .i64 bud] (by repeat (first | (with_reducible exact List.mem_cons_self) | apply List.mem_cons_of_mem)))
                        clear hK K
                        try simp only [Act.put, List.setIfInBounds_toArray, List.set_cons_zero, List.set_cons_succ]
                        refine rg_next (i := 34) (l := #[true, true, true, true, true, true, true, true, true, true, true, true, true, true, true, true, true, true, true, true, true, true, true, true, true, true, true, true, true, true, true, true, true, true, true, false]) (fuel := 1) (by kernel_rfl) rfl (by kernel_rfl) (by kernel_rfl) (fun K hK => ?_)
                        go_simp
                        go_at_call 54
                        refine (sccat_own OC.out HLN.out.1 (by have := HLN.out.2; omega) (by rw [← HTB.out]; exact HCS.out)).mono ?_
                        rw [← HTB.out]
                        rintro e w107 ⟨rfl, hb⟩
                        have sx2 := Lib.hid (sx.out.later hb)
                        clear sx hb
                        have sx := sx2
                        clear sx2
                        first | (refine hK.out _ _ ?_ (fun hHeld => ?_)) | (go_wp2_with fail; refine hK.out _ _ ?_ (fun hHeld => ?_))
                        · (try dsimp only); exact CE.out _ (sx.out.at_ x 27 #[.slice A n ca, .slice V a cv, .slice C b cc, .slice R c cr, .slice E m ce, .int .i64 bud] (by repeat (first | (with_reducible exact List.mem_cons_self) | apply List.mem_cons_of_mem)))
                        clear hK K
                        try simp only [Act.put, List.setIfInBounds_toArray, List.set_cons_zero, List.set_cons_succ]
                        refine rg_take (i := 35) (d := some 5) (l := #[true, true, true, true, true, true, true, true, true, true, true, true, true, true, true, true, true, true, true, true, true, true, true, true, true, true, true, true, true, true, true, true, true, true, true, true]) (fuel := 0) (v := ?_) rfl (by kernel_rfl) (by kernel_rfl) (by kernel_rfl) (by kernel_rfl) (by kernel_rfl) (fun _ _ _ h => h) (by kernel_rfl) ?_ (by assumption) ?_
                        rotate_left 1
                        · (intro wS hSw; (try dsimp only at hSw); go_simp; try with_reducible rfl)
                        try simp only [Act.put, List.setIfInBounds_toArray, List.set_cons_zero, List.set_cons_succ]
                        refine wpAnyH_done (by kernel_rfl) ?_ _
                        go_wp2_with fail
                        go_meet
                        case rel => exact ⟨rfl, sx.out.at_ (x + 1) 34 #[.int .i64 0, .int .i64 0] (by repeat (first | (with_reducible exact List.mem_cons_self) | apply List.mem_cons_of_mem)), sx.out.1⟩
                      exact AllReadyH.nil
                    exact AllReadyH.nil
                  exact AllReadyH.nil
                exact AllReadyH.nil
              exact AllReadyH.nil
            exact AllReadyH.nil
          exact AllReadyH.nil
        exact AllReadyH.nil
      exact AllReadyH.nil
    case rest =>
      obtain ⟨rfl, gb, hBT⟩ := hcut
      have GB := Lib.hid gb
      have HBT := Lib.hid hBT
      have g0 : wc.cell? ⟨x + 1, 0, none⟩ = some (.int .i64 0) := gb.cell 0
      have g1 : wc.cell? ⟨x + 1, 1, none⟩ = some (.int .i64 0) := gb.cell 1
      have y0 : wc.frozen? ⟨x + 1, 0, none⟩ = false := gb.frozen 0
      have y1 : wc.frozen? ⟨x + 1, 1, none⟩ = false := gb.frozen 1
      have hle : w.heap.size ≤ x + 1 := by have := HX.out; omega
      have hxx := HX.out
      clear gb hBT sx CE K4 K28 K10 K14 K18 K22 K25 HFL HLN HTB HCS HL1 HL2 HD1 HD2 hw8 hquo hn2
      by_cases hbig : 200000 < TB.size
      · have i1 : (200000 : Int) < TB.size := by omega
        have hf := (GB.out.set_ 0 (.int .i64 2)).set_ 1 (.int .i64 0)
        have hb : Below w.heap.size w _ := below_set2 HBT.out hle (.int .i64 2) (.int .i64 0)
        have hF := HFP.out
        rw [if_pos hbig] at hF
        go_wp2_with fail
        (try simp only [Exit.inBlock, Exit.then])
        have hload := hf.run_load (P := Tryd.prog) Tryd.underlying34 rfl sizeF
        have hres := fun (tmps : Array Value) (q1 : tmps[2]?.getD undef = .string ⟨#[]⟩) (q2 : tmps[3]?.getD undef = .pointer (some ⟨x + 1, 0, none⟩)) => results_tmp_cell (tmps := tmps) Tryd.results18 q1 q2 hload
        refine bodyPost_ret (hres _ ?_ ?_) ?_ ?_
        · with_unfolding_all rfl
        · with_unfolding_all rfl
        · with_unfolding_all rfl
        have e0 : textS P = ⟨#[]⟩ := by unfold textS; rw [hF, if_pos (by decide)]
        (try rw [hF])
        rw [e0]
        first | exact ⟨rfl, hb⟩ | (rw [HX.out] at hb; exact ⟨rfl, hb⟩)
      · have i1 : ¬ (200000 : Int) < TB.size := by omega
        have hf := (GB.out.set_ 0 (.int .i64 0)).set_ 1 (.int .i64 0)
        have hb : Below w.heap.size w _ := below_set2 HBT.out hle (.int .i64 0) (.int .i64 0)
        have hF := HFP.out
        rw [if_neg hbig] at hF
        go_wp2_with fail
        (try simp only [Exit.inBlock, Exit.then])
        have hload := hf.run_load (P := Tryd.prog) Tryd.underlying34 rfl sizeF
        have hres := fun (tmps : Array Value) (q1 : tmps[2]?.getD undef = .string TB) (q2 : tmps[3]?.getD undef = .pointer (some ⟨x + 1, 0, none⟩)) => results_tmp_cell (tmps := tmps) Tryd.results18 q1 q2 hload
        refine bodyPost_ret (hres _ ?_ ?_) ?_ ?_
        · with_unfolding_all rfl
        · with_unfolding_all rfl
        · with_unfolding_all rfl
        have e0 : textS P = TB := by unfold textS; rw [hF, if_neg (by decide), HTBB.out]
        (try rw [hF])
        rw [e0]
        first | exact ⟨rfl, hb⟩ | (rw [HX.out] at hb; exact ⟨rfl, hb⟩)
  · have e1 : (k1 == 0) = false := by rw [beq_eq_false_iff_ne]; exact hk1
    go_upto_region 3 with fail
    refine rg_begin (S := fun w' => w'.cell? ⟨q, 0, none⟩ = some (.int .i64 k1) ∧ w'.cell? ⟨q, 1, none⟩ = some (.int .i64 k2)) 3 #[false, false, false] (by kernel_rfl) (by kernel_rfl) (by kernel_rfl) ?_ (fun hHeld => ?_)
    · exact ⟨c0, c1⟩
    refine rg_take (i := 0) (d := some 11) (l := #[true, false, false]) (fuel := 2) (v := ?_) rfl (by kernel_rfl) (by kernel_rfl) (by kernel_rfl) (by kernel_rfl) (by kernel_rfl) (fun _ _ _ h => h) (by kernel_rfl) ?_ (by assumption) ?_
    rotate_left 1
    · (intro wS hSw; (try dsimp only at hSw); go_simp; try with_reducible rfl)
    try simp only [Act.put, List.setIfInBounds_toArray, List.set_cons_zero, List.set_cons_succ]
    refine rg_take (i := 1) (d := some 2) (l := #[true, true, false]) (fuel := 1) (v := ?_) rfl (by kernel_rfl) (by kernel_rfl) (by kernel_rfl) (by kernel_rfl) (by kernel_rfl) (fun _ _ _ h => h) (by kernel_rfl) ?_ (by assumption) ?_
    rotate_left 1
    · (intro wS hSw; (try dsimp only at hSw); go_simp; try with_reducible rfl)
    try simp only [Act.put, List.setIfInBounds_toArray, List.set_cons_zero, List.set_cons_succ]
    have GD := Lib.hid G3.out.drew_
    have BD := Lib.hid HB3.out.drew
    have KD : Hid (Blk w4.drew q 34 #[.int .i64 k1, .int .i64 k2]) := Lib.hid K3.out.drew_
    clear G3 HB3 K3 X3 c0 c1
    generalize World.drew w4 = w5 at *
    have g0 : w5.cell? ⟨x + 1, 0, none⟩ = some (.int .i64 0) := GD.out.cell 0
    have g1 : w5.cell? ⟨x + 1, 1, none⟩ = some (.int .i64 0) := GD.out.cell 1
    have y0 : w5.frozen? ⟨x + 1, 0, none⟩ = false := GD.out.frozen 0
    have y1 : w5.frozen? ⟨x + 1, 1, none⟩ = false := GD.out.frozen 1
    refine rg_next (i := 2) (l := #[true, true, true]) (fuel := 0) (by kernel_rfl) rfl (by kernel_rfl) (by kernel_rfl) (fun K hK => ?_)
    go_simp
    skip
    first | (refine hK.out _ _ ?_ (fun hHeld => ?_)) | (go_wp2_with fail; refine hK.out _ _ ?_ (fun hHeld => ?_))
    · (try dsimp only); exact ⟨((KD.out.far (p := ⟨x + 1, 0, none⟩) (by have := HQ.out; simp; omega) _).far (p := ⟨x + 1, 1, none⟩) (by have := HQ.out; simp; omega) _).cell 0, ((KD.out.far (p := ⟨x + 1, 0, none⟩) (by have := HQ.out; simp; omega) _).far (p := ⟨x + 1, 1, none⟩) (by have := HQ.out; simp; omega) _).cell 1⟩
    clear hK K
    try simp only [Act.put, List.setIfInBounds_toArray, List.set_cons_zero, List.set_cons_succ]
    refine wpAnyH_done (by kernel_rfl) ?_ _
    have hf := (GD.out.set_ 0 (.int .i64 k1)).set_ 1 (.int .i64 k2)
    have hb := (BD.out.setCell (p := ⟨x + 1, 0, none⟩) (by have := HX.out; simp; omega) (.int .i64 k1)).setCell (p := ⟨x + 1, 1, none⟩) (by have := HX.out; simp; omega) (.int .i64 k2)
    have hF := HF.out
    rw [if_pos hk1] at hF
    go_wp2_with fail
    (try simp only [Exit.inBlock, Exit.then])
    refine bodyPost_ret (results_tmp_cell (a := ⟨x + 1, 0, none⟩) Tryd.results18 rfl rfl (hf.run_load (P := Tryd.prog) Tryd.underlying34 rfl sizeF)) rfl ?_
    refine ⟨?_, hb⟩
    unfold textS
    rw [hF, if_pos hk1]
    rfl
end Go.Proofs.YtnhnphifhkkboaaDoor
