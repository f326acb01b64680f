/-
  Texts of these proofs, one behind the other: Ent10, Ent11.
-/
import Derived.Test.YtndhkdcdhpfajaaGreatKEP39
import Derived.Lib.AppendZeros
import Derived.Maps.AppendAt
namespace Go.Proofs.YtndhkdcdhpfajaaGreat
open Go.RowKit
set_option linter.unusedVariables false
set_option linter.unusedSimpArgs false
set_option maxRecDepth 100000
set_option maxHeartbeats 8000000
theorem egrow_any (m : Nat) (h0 : 0 < m) (h1 : m ≤ 1000) (w : World) :
    Calls Tryz.prog 172 #[.slice none 0 0, .int .i64 m] w fun e w' => ∃ v, e = .returned v ∧ w'.ownsRow w.heap.size 70 4 v 0 [] ∧ Below w.heap.size w w' := by
  obtain ⟨i, hi, hzz⟩ := Option.map_eq_some_iff.1 esp_info
  simp only [Prod.mk.injEq] at hzz
  obtain ⟨hz, hs, hb⟩ := hzz
  have hrun := Lib.run_append_nil_zeros (P := Tryz.prog) w 67 3 67 70 i _ .i64 .i64 Tryz.underlying67 Tryz.underlying3 hi hz m h0 (by omega) (by omega) (by rw [hb]; omega)
  have hge := grownCap_ge w m 0 70
  have hle := grownCap_le_maxLen w m 0 70 (by simp only [maxLen]; omega)
  obtain ⟨C, hC⟩ : ∃ C, grownCap w m 0 70 = C := ⟨_, rfl⟩
  rw [hC] at hrun hge hle
  obtain ⟨cs, hcs⟩ : ∃ cs, Builtin.zeroCells (Value.agg #[.int .u8 0, .int .u16 0, .bool false, .int .u8 0]).cells m ++ Builtin.zeroCells (Value.agg #[.int .u8 0, .int .u16 0, .bool false, .int .u8 0]).cells (C - m) = cs := ⟨_, rfl⟩
  have hsz : cs.size = C * 4 := by
    rw [← hcs, Array.size_append, size_zeroCells, size_zeroCells, show (Value.agg #[.int .u8 0, .int .u16 0, .bool false, .int .u8 0]).cells.size = 4 from rfl]; omega
  rw [hcs] at hrun
  clear hcs hC hi hz hs hb
  have HB := Lib.hid (show Below w.heap.size w (w.drew.alloc (.cells cs 70)) from ((Below.refl _ w).drew).alloc (Nat.le_refl _) _)
  have HH : Hid ((w.drew.alloc (.cells cs 70)).heap[w.heap.size]? = some (.cells cs 70 (0, 0))) := Lib.hid (heap_alloc_new w.drew _)
  obtain ⟨G, hG⟩ : ∃ G, w.heap.size = G := ⟨_, rfl⟩
  obtain ⟨w1, hw1⟩ : ∃ w1, w.drew.alloc (.cells cs 70) = w1 := ⟨_, rfl⟩
  rw [hw1] at hrun HB HH
  rw [hG] at hrun HB HH ⊢
  have HO := Lib.hid (And.intro hsz (And.intro hge hle))
  clear hw1 hG hsz hge hle
  go_enter Tryz.func172, Tryz.ntmps172
  go_wp2_with (at_builtin; refine Lib.wpList_append_run _ rfl (.tmp 20) (.tmp 21) _ _ rfl _ _ rfl rfl _ _ hrun ?_)
  go_ret
  exact ⟨_, rfl, ⟨rfl, .inr ⟨G, C, cs, rfl, Nat.le_refl _, HH.out, Nat.zero_le _, HO.out.2.2, HO.out.1, by simp⟩⟩, HB.out⟩
end Go.Proofs.YtndhkdcdhpfajaaGreat
namespace Go.Proofs.YtndhkdcdhpfajaaGreat
open Go.RowKit
set_option linter.unusedVariables false
set_option linter.unusedSimpArgs false
set_option maxRecDepth 100000
set_option maxHeartbeats 8000000
theorem own_form {W : World} {base size n : Nat} {e : TypeId} {v : Value} {xs : List Value} (h : W.ownsRow base e size v n xs) (hn : 0 < n) : ∃ b c, v = .slice (some ⟨b, 0, none⟩) n c ∧ base ≤ b ∧ b < W.heap.size := by
  rcases h.2 with ⟨_, h0⟩ | ⟨g, cap, cur, hv, hg, hgg, _⟩
  · omega
  · exact ⟨g, cap, hv, hg, (h.lt g (by rw [hv]; rfl)).2⟩
/-- A piece behind a row of the call's own. -/
theorem more_spo {P : Program} {t e ty : TypeId} {w : World} {base n m b c base2 : Nat} {v : Value} {xs : List Value} (ht : P.underlying t = some (.slice e))
    (hinfo : (P.info? e).map (fun i => (i.zero, i.size, i.bytes)) = some (some (.agg #[.int .u8 0, .int .u16 0, .bool false, .int .u8 0]), 4, 6)) (hown : w.ownsRow base e 4 v n xs) (l : List Sp) (hm : m = l.length)
    (hp : w.ownsRow base2 e 4 (.slice (some ⟨b, 0, none⟩) m c) m (spL l)) (hn : n + m ≤ 1000000) (hb : base ≤ w.heap.size) :
    ∃ v' w', (Builtin.append_ #[t, t] ty #[v, .slice (some ⟨b, 0, none⟩) m c]).run P w = .ok v' w' ∧ w'.ownsRow base e 4 v' (n + m) (xs ++ spL l) ∧ w.grownBy w' v.ownBlock := by
  obtain ⟨i, hi, hzz⟩ := Option.map_eq_some_iff.1 hinfo
  simp only [Prod.mk.injEq] at hzz
  obtain ⟨hz, hs, hby⟩ := hzz
  obtain ⟨v', w', h1, h2, h3, _, _⟩ := run_append_own_at (P := P) w base t ty e i _ 4 6 ht hi hz hs hby rfl (by omega) v n xs hown ⟨b, 0, none⟩ m c (spL l) (by rw [spL_len, hm]; omega) (hp.cells rfl) (spL_one l) (by simp only [maxLen]; omega) (by omega) hb
  exact ⟨v', w', h1, h2, h3⟩
def flP (ps : List (Value × List Sp)) : List Sp := ps.flatMap (·.2)
theorem flP_take (ps : List (Value × List Sp)) (j : Nat) (p : Value × List Sp) (h : ps[j]? = some p) : flP (ps.take (j + 1)) = flP (ps.take j) ++ p.2 := by
  unfold flP
  rw [List.take_add_one, h]; simp
theorem flP_le (ps : List (Value × List Sp)) (j : Nat) : (flP (ps.take j)).length ≤ (flP ps).length := by
  have : flP ps = flP (ps.take j) ++ flP (ps.drop j) := by unfold flP; rw [← List.flatMap_append, List.take_append_drop]
  rw [this, List.length_append]; omega
theorem econcat_any (g n c B : Nat) (ps : List (Value × List Sp)) (hn : ps.length = n) (h0 : 0 < n) (hn1 : n ≤ 1000) (w : World) (hg : Blk w g 67 (ps.map (·.1)).toArray)
    (hps : ∀ p ∈ ps, w.ownsRow B 70 4 p.1 p.2.length (spL p.2) ∧ 0 < p.2.length) (ht : (flP ps).length ≤ 1000) :
    Calls Tryz.prog 141 #[.slice (some ⟨g, 0, none⟩) n c] w fun e w' => ∃ v, e = .returned v ∧ w'.ownsRow w.heap.size 70 4 v (flP ps).length (spL (flP ps)) ∧ Below w.heap.size w w' := by
  have HPS := Lib.hid hps
  have KG := Lib.hid hg
  have HN := Lib.hid hn
  have HT0 : 0 < (flP ps).length := by
    obtain ⟨p, hp⟩ : ∃ p, ps[0]? = some p := ⟨ps[0]'(by omega), List.getElem?_eq_getElem _⟩
    have h1 := flP_take ps 0 p hp
    have h2 := flP_le ps 1
    have h3 := (hps p (List.mem_of_getElem? hp)).2
    rw [h1, List.length_append] at h2; omega
  clear hps hg hn
  have HLE := Lib.hid (flP_le ps)
  have HTK := Lib.hid (flP_take ps)
  obtain ⟨T, hT⟩ : ∃ T, (flP ps).length = T := ⟨_, rfl⟩
  rw [hT] at ht HT0 ⊢
  have HTT := Lib.hid hT
  clear hT
  go_enter Tryz.func141, Tryz.ntmps141
  go_wp2_with fail
  go_loop [3, 11] (fun s i => ∃ j : Nat, j ≤ n ∧ i = .int .i64 j ∧ s = .int .i64 (((flP (ps.take j)).length : Nat) : Int)) (fun _ i => n - (intOf i).toNat)
  case atStart => exact ⟨0, by omega, rfl, rfl⟩
  case round =>
    obtain ⟨j, hj, rfl, rfl⟩ := hrel
    by_cases hlt : j < n
    · obtain ⟨p, hp⟩ : ∃ p, ps[j]? = some p := ⟨ps[j]'(by rw [HN.out]; exact hlt), List.getElem?_eq_getElem _⟩
      have hm := HPS.out p (List.mem_of_getElem? hp)
      obtain ⟨b, cp, hv, _, _⟩ := own_form hm.1 hm.2
      have hc : w.cell? ⟨g, j, none⟩ = some (.slice (some ⟨b, 0, none⟩) p.2.length cp) := by rw [KG.out.cell j, ← hv]; simp [hp]
      have htk := HTK.out j p hp
      have hl1 := HLE.out (j + 1)
      rw [htk, List.length_append, HTT.out] at hl1
      obtain ⟨S, hS⟩ : ∃ S, (flP (ps.take j)).length = S := ⟨_, rfl⟩
      obtain ⟨k, hk⟩ : ∃ k, p.2.length = k := ⟨_, rfl⟩
      rw [hS, hk] at hl1
      rw [hk] at hc
      rw [hS]
      have HS' : Hid ((((flP (ps.take (j + 1))).length : Nat) : Int) = (S : Int) + k) := Lib.hid (by rw [htk, List.length_append, hS, hk]; simp)
      clear htk hS hk hm hv
      go_wp2_with fail
      go_round
      case rel => exact ⟨j + 1, by omega, by go_num, by rw [HS'.out]⟩
      case measure => simp [intOf]; omega
    · obtain rfl : j = n := by omega
      have hfl : (flP (ps.take j)).length = T := by rw [List.take_of_length_le (by rw [HN.out]; exact Nat.le_refl _)]; exact HTT.out
      rw [hfl]
      clear hfl hlt hj
      go_wp2_with (go_at_call 172; refine (egrow_any T HT0 ht _).mono ?_; rintro e w1 ⟨v1, rfl, own1, hb1⟩)
      have OWN1 := Lib.hid own1
      have HB1 := Lib.hid hb1
      clear own1 hb1
      go_wp2_with fail
      go_loopw [6, 27] (fun v i wr => ∃ q : Nat, q ≤ j ∧ i = .int .i64 q ∧ wr.ownsRow w.heap.size 70 4 v (flP (ps.take q)).length (spL (flP (ps.take q))) ∧ Below w.heap.size w wr) (fun _ i _ => j - (intOf i).toNat)
      case atStart => exact ⟨0, by omega, rfl, OWN1.out, HB1.out⟩
      case round =>
        obtain ⟨q, hq, rfl, own, hB⟩ := hrel
        have OWN := Lib.hid own
        have HB := Lib.hid hB
        clear own hB
        by_cases hlt : q < j
        · obtain ⟨p, hp⟩ : ∃ p, ps[q]? = some p := ⟨ps[q]'(by rw [HN.out]; exact hlt), List.getElem?_eq_getElem _⟩
          have hm := HPS.out p (List.mem_of_getElem? hp)
          obtain ⟨b, cp, hv, _, _⟩ := own_form hm.1 hm.2
          have hc : wr.cell? ⟨g, q, none⟩ = some (.slice (some ⟨b, 0, none⟩) p.2.length cp) := by
            rw [HB.out.cell (p := ⟨g, q, none⟩) KG.out.lt, KG.out.cell q, ← hv]; simp [hp]
          have htk := HTK.out q p hp
          have hl1 := HLE.out (q + 1)
          rw [htk, List.length_append, HTT.out] at hl1
          have hpo := own_belowG hm.1 HB.out
          rw [hv] at hpo
          obtain ⟨v', w', hrun, own', gb⟩ := more_spo (P := Tryz.prog) (t := 67) (e := 70) (ty := 67) (c := cp) (m := p.2.length) Tryz.underlying67 esp_info OWN.out p.2 rfl hpo (by omega) HB.out.size
          have HW : Hid (w'.ownsRow w.heap.size 70 4 v' (flP (ps.take (q + 1))).length (spL (flP (ps.take (q + 1))))) := Lib.hid (by rw [htk, List.length_append, spL_app]; exact own')
          have HB6 := Lib.hid (HB.out.grown gb HB.out.size (fun i h => (OWN.out.lt i h).1))
          obtain ⟨k, hk⟩ : ∃ k, p.2.length = k := ⟨_, rfl⟩
          rw [hk] at hc hrun
          clear own' gb htk hl1 hpo hm hv hk
          go_wp2_with (at_builtin; refine wpList_append_run rfl (.tmp 31) (.tmp 32) 67 rfl rfl rfl hrun ?_)
          go_roundw
          case rel => exact ⟨q + 1, by omega, by go_num, HW.out, HB6.out⟩
          case measure => simp [intOf]; omega
        · obtain rfl : q = j := by omega
          have own := OWN.out
          rw [List.take_of_length_le (by rw [HN.out]; exact Nat.le_refl _), HTT.out] at own
          have OWN2 := Lib.hid own
          clear own
          go_wp2_with fail
          go_ret
          exact ⟨_, rfl, OWN2.out, HB.out⟩
theorem etogether_any (g n c B : Nat) (ps : List (Value × List Sp)) (hn : ps.length = n) (h0 : 0 < n) (hn1 : n ≤ 1000) (w : World) (hg : Blk w g 67 (ps.map (·.1)).toArray)
    (hps : ∀ p ∈ ps, w.ownsRow B 70 4 p.1 p.2.length (spL p.2) ∧ 0 < p.2.length) (ht : (flP ps).length ≤ 1000) :
    Calls Tryz.prog 80 #[.slice (some ⟨g, 0, none⟩) n c] w fun e w' => ∃ v, e = .returned v ∧ w'.ownsRow w.heap.size 70 4 v (flP ps).length (spL (flP ps)) ∧ Below w.heap.size w w' := by
  have hcon := fun W (h : W = w) => econcat_any g n c B ps hn h0 hn1 W (h ▸ hg) (h ▸ hps) ht
  have HC := Lib.hid hcon
  clear hcon hg hps hn ht
  go_enter Tryz.func80, Tryz.ntmps80
  go_wp2_with (go_at_call 141; refine (HC.out _ rfl).mono ?_; rintro e w1 ⟨v1, rfl, own1, hb1⟩)
  have OWN1 := Lib.hid own1
  have HB1 := Lib.hid hb1
  clear own1 hb1
  go_wp2_with fail
  go_ret
  exact ⟨_, rfl, OWN1.out, HB1.out⟩
end Go.Proofs.YtndhkdcdhpfajaaGreat
