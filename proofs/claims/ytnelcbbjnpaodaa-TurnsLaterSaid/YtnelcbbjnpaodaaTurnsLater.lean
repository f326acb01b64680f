/-
  For every input TurnsLater returns true, and each argument reads behind the call as it read before. No conditions.
-/
import Derived.Test.YtnelcbbjnpaodaaRows
import Derived.Test.YtnelcbbjnpaodaaG3
import Derived.Test.YtnelcbbjnpaodaaTrn11
import Derived.Test.YtnelcbbjnpaodaaG13
namespace Go.Proofs.Ytnelcbbjnpaodaa.turnsLater
open Go.ChangeShapes Go.WideShapes Go.ChangeAt Go.RowKit
open Go.ChangeMaps (open_string)

set_option linter.unusedSimpArgs false
/-- A row begun one place later. -/
def ltr (x : Int) (z : Nat → Int) (i : Nat) : Int := if i < 1 then x else z (i - 1)
theorem fsm_ltr (x : Int) (z : Nat → Int) (n : Nat) : ∀ r, r < 4 → fsm (ltr x z) (n + 1) ((r + 1) % 4) = fsm z n r + if (r + 1) % 4 = 0 then x else 0 := by
  induction n with
  | zero =>
    intro r hr
    have : r = 0 ∨ r = 1 ∨ r = 2 ∨ r = 3 := by omega
    rcases this with rfl | rfl | rfl | rfl <;> simp [fsm, ltr]
  | succ n ih =>
    intro r hr
    have e1 : fsm (ltr x z) (n + 1 + 1) ((r + 1) % 4) = if (r + 1) % 4 = (n + 1) % 4 then fsm (ltr x z) (n + 1) ((n + 1) % 4) + ltr x z (n + 1) else fsm (ltr x z) (n + 1) ((r + 1) % 4) := rfl
    have e2 : fsm z (n + 1) r = if r = n % 4 then fsm z n (n % 4) + z n else fsm z n r := rfl
    have e3 : ltr x z (n + 1) = z n := by unfold ltr; rw [if_neg (by omega)]; rfl
    rw [e1, e2, e3]
    by_cases h : r = n % 4
    · have h2 : (r + 1) % 4 = (n + 1) % 4 := by omega
      have h3 := ih (n % 4) (Nat.mod_lt _ (by decide))
      have h4 : (n % 4 + 1) % 4 = (n + 1) % 4 := by omega
      rw [if_pos h2, if_pos h]
      rw [h4] at h3
      rw [h3, h2]
      omega
    · have h2 : ¬ (r + 1) % 4 = (n + 1) % 4 := by omega
      rw [if_neg h2, if_neg h, ih r hr]
def rotn : Nat → Int × Int → Int × Int
  | 0, p => p
  | m + 1, p => ((rotn m p).2, -(rotn m p).1)
theorem rotn_bd {M : Nat} {p : Int × Int} (h1 : p.1.natAbs ≤ M) (h2 : p.2.natAbs ≤ M) : ∀ m, (rotn m p).1.natAbs ≤ M ∧ (rotn m p).2.natAbs ≤ M
  | 0 => ⟨h1, h2⟩
  | m + 1 => by
    obtain ⟨a, b⟩ := rotn_bd h1 h2 m
    simp only [rotn, Int.natAbs_neg]
    exact ⟨b, a⟩
theorem bns_ltr {V V2 : Nat → Int} {x : Int} (h0 : V2 0 = V 3 + x) (h1 : V2 1 = V 0) (h2 : V2 2 = V 1) (h3 : V2 3 = V 2) {k : Nat} (hk : k < 4) :
    bns V2 (k * 2) = (rotn k (bns V (k * 2), bns V (k * 2 + 1))).1 + x ∧ bns V2 (k * 2 + 1) = (rotn k (bns V (k * 2), bns V (k * 2 + 1))).2 := by
  have : k = 0 ∨ k = 1 ∨ k = 2 ∨ k = 3 := by omega
  rcases this with rfl | rfl | rfl | rfl <;> simp [bns, rotn, h0, h1, h2, h3] <;> omega
theorem tinfoI : (Try.prog.info? 3).map (fun i => (i.zero, i.size, i.bytes)) = some (some (.int .i64 0), 1, 8) := by kernel_rfl
theorem later_row {w : World} {A : Option Addr} {n c : Nat} {z : Nat → Int} {x : Int} (hx : (Lit.int .i64 x).wf = true) (R : IRow (w.alloc (.cells #[.int .i64 x] 3)) .i64 A n z) (hn : n ≤ 5000) :
    ∃ A2 c2 w2, (Builtin.append_ #[22, 22] 22 #[.slice (some ⟨w.heap.size, 0, none⟩) 1 1, .slice A n c]).run Try.prog (w.alloc (.cells #[.int .i64 x] 3)) = .ok (.slice A2 (n + 1) c2) w2 ∧ IRow w2 .i64 A2 (n + 1) (ltr x z) ∧ Below w.heap.size w w2 := by
  have hB0 : Below w.heap.size w (w.alloc (.cells #[.int .i64 x] 3)) := (Below.refl _ _).alloc (Nat.le_refl _) _
  have hown0 : (w.alloc (.cells #[.int .i64 x] 3)).ownsRow w.heap.size 3 1 (.slice (some ⟨w.heap.size, 0, none⟩) 1 1) 1 [.int .i64 x] :=
    ⟨rfl, Or.inr ⟨w.heap.size, 1, #[.int .i64 x], rfl, Nat.le_refl _, heap_alloc_new w _, Nat.le_refl _, by unfold maxLen; omega, rfl, rfl⟩⟩
  obtain ⟨v2, w2, r2, o2, g2⟩ := more_ints (P := Try.prog) (ty := 22) (c := c) Try.underlying22 tinfoI (by decide) hown0 R (by omega) hB0.size
  have hB2 : Below w.heap.size w w2 := hB0.grown g2 hB0.size (fun k h => by simp [Value.ownBlock] at h; omega)
  have e : [Value.int .i64 x] ++ intsOf .i64 z n = intsOf .i64 (ltr x z) (1 + n) := by
    have := intsOf_cat (k := .i64) (fun _ => x) z 1 n
    exact this
  rw [e] at o2
  obtain ⟨A2, c2, rfl, _, _, p3, _⟩ := own_row o2 (fun i hi => by
    unfold ltr
    split
    · exact hx
    · exact R.wf_ _ (by omega))
  rw [Nat.add_comm] at r2 p3
  exact ⟨A2, c2, w2, r2, p3, hB2⟩

set_option linter.unusedVariables false
set_option linter.unusedSimpArgs false
set_option maxRecDepth 100000 in
set_option maxHeartbeats 8000000 in
theorem walk {W : World} (A1 : Option Addr) (n1 c1 : Nat) (z1 : Nat → Int) (hnc1 : n1 ≤ c1) (hm1 : c1 ≤ maxLen) (R1 : IRow W .i64 A1 n1 z1) (x : Int) (wx : (Lit.int .i64 x).wf = true) :
    Calls Try.prog 6 #[.slice A1 n1 c1, .int .i64 x] W fun e w' => e = .returned (.bool true) ∧ Below W.heap.size W w' := by
  unfold maxLen at hm1
  have HR := Lib.hid R1
  have HWX := Lib.hid wx
  clear R1 wx
  by_cases h1 : 4000 < n1
  · have j1 : (4000 : Int) < n1 := by omega
    go_enter Try.func6, Try.ntmps6
    go_wp2_with fail
    refine (liveT_any _).mono ?_
    rintro e w0 ⟨rfl, b0⟩
    have QB := Lib.hid b0
    clear b0
    go_wp2_with fail
    go_ret
    exact ⟨rfl, QB.out⟩
  have j1 : ¬ (4000 : Int) < n1 := by omega
  have hn : n1 ≤ 9223372036854775000 := by omega
  have hn2 : n1 + 1 ≤ 9223372036854775000 := by omega
  obtain ⟨E, hE⟩ : ∃ E, rowE z1 n1 = E := ⟨_, rfl⟩
  obtain ⟨V, hV⟩ : ∃ V, fldV z1 n1 = V := ⟨_, rfl⟩
  obtain ⟨E2, hE2⟩ : ∃ E, rowE (ltr x z1) (n1 + 1) = E := ⟨_, rfl⟩
  obtain ⟨V2, hV2⟩ : ∃ V, fldV (ltr x z1) (n1 + 1) = V := ⟨_, rfl⟩
  have hZ : E ≠ 0 → ∀ i, V i = 0 := fun he i => by rw [← hV]; unfold fldV; rw [hE, if_neg he]
  have hZ2 : E2 ≠ 0 → ∀ i, V2 i = 0 := fun he i => by rw [← hV2]; unfold fldV; rw [hE2, if_neg he]
  have hVb : ∀ j, (bns V j).natAbs ≤ 1073741824 := fun j => by rw [← hV]; exact bns_of_sum (fld_sum z1 n1) j
  have HE := Lib.hid hE
  have HV := Lib.hid hV
  have HE2 := Lib.hid hE2
  have HV2 := Lib.hid hV2
  have HZ := Lib.hid hZ
  have HZ2 := Lib.hid hZ2
  have HVb := Lib.hid hVb
  have HN4 := Lib.hid h1
  clear hE hV hE2 hV2 hZ hZ2 hVb h1
  have q0 : ∀ w, (Op.equalIn 10000 29 (.agg #[.int .i64 (0), .int .i64 (0), .int .i64 (0), .int .i64 (0), .int .i64 (0), .int .i64 (0), .int .i64 (0), .int .i64 (0)]) (.agg #[.int .i64 (0), .int .i64 (0), .int .i64 (0), .int .i64 (0), .int .i64 (0), .int .i64 (0), .int .i64 (0), .int .i64 (0)])).run Try.prog w = .ok true w := fun w => teq8 (fun _ => 0) (fun _ => 0) w
  by_cases h0 : E = 0
  · subst h0
    by_cases h2 : E2 = 0
    · subst h2
      have hE := HE.out
      have hE2 := HE2.out
      have g0 : V2 0 = V 3 + x := by rw [← HV2.out, ← HV.out]; unfold fldV; rw [if_pos hE2, if_pos hE]; have := fsm_ltr x z1 n1 3 (by decide); simpa using this
      have g1 : V2 1 = V 0 := by rw [← HV2.out, ← HV.out]; unfold fldV; rw [if_pos hE2, if_pos hE]; have := fsm_ltr x z1 n1 0 (by decide); simpa using this
      have g2 : V2 2 = V 1 := by rw [← HV2.out, ← HV.out]; unfold fldV; rw [if_pos hE2, if_pos hE]; have := fsm_ltr x z1 n1 1 (by decide); simpa using this
      have g3 : V2 3 = V 2 := by rw [← HV2.out, ← HV.out]; unfold fldV; rw [if_pos hE2, if_pos hE]; have := fsm_ltr x z1 n1 2 (by decide); simpa using this
      have hxb : -262144 ≤ x ∧ x ≤ 262144 := by
        unfold rowE at hE2
        split at hE2
        · cases hE2
        · split at hE2
          · cases hE2
          · rename_i k1 k2
            exact farB_not.1 (Bool.eq_false_iff.2 k2) 0 (by omega)
      obtain ⟨x0, x1⟩ := hxb
      have HL : Hid (∀ k : Nat, k < 4 → bns V2 (k * 2) = (rotn k (bns V (k * 2), bns V (k * 2 + 1))).1 + x ∧ bns V2 (k * 2 + 1) = (rotn k (bns V (k * 2), bns V (k * 2 + 1))).2) := Lib.hid fun k hk => bns_ltr g0 g1 g2 g3 hk
      clear hE hE2 g0 g1 g2 g3
      have HB8 : Hid (vArr 8 (bnV V) = #[.int .i64 (bns V 0), .int .i64 (bns V 1), .int .i64 (bns V 2), .int .i64 (bns V 3), .int .i64 (bns V 4), .int .i64 (bns V 5), .int .i64 (bns V 6), .int .i64 (bns V 7)]) := Lib.hid rfl
      have HU8 : Hid (vArr 8 (bnV V2) = #[.int .i64 (bns V2 0), .int .i64 (bns V2 1), .int .i64 (bns V2 2), .int .i64 (bns V2 3), .int .i64 (bns V2 4), .int .i64 (bns V2 5), .int .i64 (bns V2 6), .int .i64 (bns V2 7)]) := Lib.hid rfl
      go_enter Try.func6, Try.ntmps6
      go_wp2_with fail
      refine (liveT_any _).mono ?_
      rintro e w0 ⟨rfl, b0⟩
      have QB := Lib.hid b0
      clear b0
      go_wp2_with fail
      refine (tof_any (HR.out.keep QB.out) hn).mono ?_
      rw [HE.out, HV.out, HB8.out]
      rintro e w1 ⟨rfl, b1⟩
      have KN : Blk (w1.alloc (.cells #[.int .i64 (bns V 0), .int .i64 (bns V 1), .int .i64 (bns V 2), .int .i64 (bns V 3), .int .i64 (bns V 4), .int .i64 (bns V 5), .int .i64 (bns V 6), .int .i64 (bns V 7)] 29)) w1.heap.size 29 #[.int .i64 (bns V 0), .int .i64 (bns V 1), .int .i64 (bns V 2), .int .i64 (bns V 3), .int .i64 (bns V 4), .int .i64 (bns V 5), .int .i64 (bns V 6), .int .i64 (bns V 7)] := Blk.new w1 _ _
      have KB : Below W.heap.size W (w1.alloc (.cells #[.int .i64 (bns V 0), .int .i64 (bns V 1), .int .i64 (bns V 2), .int .i64 (bns V 3), .int .i64 (bns V 4), .int .i64 (bns V 5), .int .i64 (bns V 6), .int .i64 (bns V 7)] 29)) := (QB.out.trans (b1.mono QB.out.size)).alloc (Nat.le_trans QB.out.size b1.size) _
      obtain ⟨ga, hga⟩ : ∃ h, w1.heap.size = h := ⟨_, rfl⟩
      rw [hga] at KN
      have Hga := Lib.hid KN
      have QB := Lib.hid KB
      clear  KN KB b1
      go_upto_region 6 with fail
      generalize World.alloc _ _ = v1 at *
      clear hga
      have hrow := later_row (w := v1) (c := c1) HWX.out ((HR.out.keep QB.out).keep ((Below.refl _ _).alloc (Nat.le_refl _) _)) (by have := HN4.out; omega)
      obtain ⟨A2, c2, w2, hrun, hIR, b2⟩ := hrow
      have HIR := Lib.hid hIR
      have Hga := Lib.hid (Hga.out.below b2 Hga.out.lt)
      have QB := Lib.hid (QB.out.trans (b2.mono QB.out.size))
      clear hIR b2
      go_wp2_with (at_builtin; refine wpList_append_run rfl (.tmp 25) (.tmp 26) 22 rfl rfl rfl hrun ?_)
      clear hrun
      refine (tof_any HIR.out hn2).mono ?_
      rw [HE2.out, HV2.out, HU8.out]
      rintro e w3 ⟨rfl, b3⟩
      have KHga : Blk (w3.alloc (.cells #[.int .i64 (bns V2 0), .int .i64 (bns V2 1), .int .i64 (bns V2 2), .int .i64 (bns V2 3), .int .i64 (bns V2 4), .int .i64 (bns V2 5), .int .i64 (bns V2 6), .int .i64 (bns V2 7)] 29)) ga 29 #[.int .i64 (bns V 0), .int .i64 (bns V 1), .int .i64 (bns V 2), .int .i64 (bns V 3), .int .i64 (bns V 4), .int .i64 (bns V 5), .int .i64 (bns V 6), .int .i64 (bns V 7)] := (Hga.out.below b3 Hga.out.lt).alloc _
      have KN : Blk (w3.alloc (.cells #[.int .i64 (bns V2 0), .int .i64 (bns V2 1), .int .i64 (bns V2 2), .int .i64 (bns V2 3), .int .i64 (bns V2 4), .int .i64 (bns V2 5), .int .i64 (bns V2 6), .int .i64 (bns V2 7)] 29)) w3.heap.size 29 #[.int .i64 (bns V2 0), .int .i64 (bns V2 1), .int .i64 (bns V2 2), .int .i64 (bns V2 3), .int .i64 (bns V2 4), .int .i64 (bns V2 5), .int .i64 (bns V2 6), .int .i64 (bns V2 7)] := Blk.new w3 _ _
      have KB : Below W.heap.size W (w3.alloc (.cells #[.int .i64 (bns V2 0), .int .i64 (bns V2 1), .int .i64 (bns V2 2), .int .i64 (bns V2 3), .int .i64 (bns V2 4), .int .i64 (bns V2 5), .int .i64 (bns V2 6), .int .i64 (bns V2 7)] 29)) := (QB.out.trans (b3.mono QB.out.size)).alloc (Nat.le_trans QB.out.size b3.size) _
      obtain ⟨gb, hgb⟩ : ∃ h, w3.heap.size = h := ⟨_, rfl⟩
      rw [hgb] at KN
      have Hga := Lib.hid KHga
      have Hgb := Lib.hid KN
      have QB := Lib.hid KB
      clear KHga KN KB b3
      go_upto_region 7 with fail
      generalize World.alloc _ _ = v3 at *
      clear hgb
      go_wp2_with fail
      go_loopw [9] (fun i wr => ∃ k : Nat, k ≤ 4 ∧ i = .int .i64 k ∧ Blk wr ga 29 #[.int .i64 (bns V 0), .int .i64 (bns V 1), .int .i64 (bns V 2), .int .i64 (bns V 3), .int .i64 (bns V 4), .int .i64 (bns V 5), .int .i64 (bns V 6), .int .i64 (bns V 7)] ∧ Blk wr gb 29 #[.int .i64 (bns V2 0), .int .i64 (bns V2 1), .int .i64 (bns V2 2), .int .i64 (bns V2 3), .int .i64 (bns V2 4), .int .i64 (bns V2 5), .int .i64 (bns V2 6), .int .i64 (bns V2 7)] ∧ Below W.heap.size W wr) (fun i _ => 4 - (intOf i).toNat)
      case atStart => exact ⟨0, by omega, rfl, Hga.out, Hgb.out, QB.out⟩
      case round =>
        clear Hga Hgb QB HIR
        obtain ⟨k, hk, rfl, ha, hb, hB⟩ := hrel
        have Hga := Lib.hid ha
        have Hgb := Lib.hid hb
        have QB := Lib.hid hB
        clear hB
        by_cases hlt : k < 4
        · have i1 : (k : Int) < 4 := by omega
          have i2 : (0 : Int) ≤ (k : Int) := by omega
          obtain ⟨a, hva⟩ : ∃ a, bns V (k * 2) = a := ⟨_, rfl⟩
          obtain ⟨b, hvb⟩ : ∃ b, bns V (k * 2 + 1) = b := ⟨_, rfl⟩
          have ba := HVb.out (k * 2)
          have bb := HVb.out (k * 2 + 1)
          rw [hva] at ba
          rw [hvb] at bb
          have ca : wr.cell? ⟨ga, k * 2, none⟩ = some (.int .i64 a) := by rw [ha.cell, ← HB8.out, vArr_at 8 _ _ (by omega), ← hva]; rfl
          have cb : wr.cell? ⟨ga, k * 2 + 1, none⟩ = some (.int .i64 b) := by rw [ha.cell, ← HB8.out, vArr_at 8 _ _ (by omega), ← hvb]; rfl
          have HAB := Lib.hid (And.intro hva hvb)
          have HBD : Hid (∀ m, (rotn m (a, b)).1.natAbs ≤ 1073741824 ∧ (rotn m (a, b)).2.natAbs ≤ 1073741824) := Lib.hid (rotn_bd ba bb)
          clear ha hb hva hvb ba bb
          go_wp2_with fail
          go_quiet (fail)
          have Hga := Lib.hid (Hga.out.drewN nq)
          have Hgb := Lib.hid (Hgb.out.drewN nq)
          have QB : Hid (Below W.heap.size W (wr.drewN nq)) := Lib.hid (below_like QB.out rfl rfl rfl rfl)
          clear ca cb
          generalize wr.drewN nq = wn at *
          go_wp2_with fail
          go_loopw [10, 11, 12] (fun re im i wz => ∃ m : Nat, m ≤ k ∧ i = .int .i64 m ∧ re = .int .i64 (rotn m (a, b)).1 ∧ im = .int .i64 (rotn m (a, b)).2 ∧ wz = wn) (fun _ _ i _ => k - (intOf i).toNat)
          case atStart => exact ⟨0, by omega, rfl, rfl, rfl, by first | rfl | trivial⟩
          case round =>
            obtain ⟨m, hm, rfl, rfl, rfl, rfl⟩ := hrel
            obtain ⟨d1, d2⟩ := HBD.out m
            have hs : rotn (m + 1) (a, b) = ((rotn m (a, b)).2, -(rotn m (a, b)).1) := rfl
            have HSS := Lib.hid hs
            by_cases hltm : m < k
            · have j1 : (m : Int) < (k : Int) := by omega
              clear hs
              generalize (rotn m (a, b)).1 = re at *
              generalize (rotn m (a, b)).2 = im at *
              have e1 : -1073741824 ≤ re ∧ re ≤ 1073741824 := by omega
              obtain ⟨e1, e2⟩ := e1
              clear d1 d2
              go_wp2_with fail
              go_roundw
              case rel => exact ⟨m + 1, by omega, by go_num, by rw [HSS.out], by rw [HSS.out], by first | rfl | trivial⟩
              case measure => simp [intOf]; omega
            · have j1 : ¬ (m : Int) < (k : Int) := by omega
              obtain rfl : m = k := by omega
              clear hs HSS
              obtain ⟨l1, l2⟩ := HL.out m hlt
              rw [HAB.out.1, HAB.out.2] at l1 l2
              have cb0 : wr.cell? ⟨gb, m * 2, none⟩ = some (.int .i64 ((rotn m (a, b)).1 + x)) := by rw [Hgb.out.cell, ← HU8.out, vArr_at 8 _ _ (by omega), ← l1]; rfl
              have cb1 : wr.cell? ⟨gb, m * 2 + 1, none⟩ = some (.int .i64 (rotn m (a, b)).2) := by rw [Hgb.out.cell, ← HU8.out, vArr_at 8 _ _ (by omega), ← l2]; rfl
              generalize (rotn m (a, b)).1 = re at *
              generalize (rotn m (a, b)).2 = im at *
              have e1 : -1073741824 ≤ re ∧ re ≤ 1073741824 := by omega
              obtain ⟨e1, e2⟩ := e1
              have m1 : ((re + x) != (re + x)) = false := by simp
              have m2 : (im != im) = false := by simp
              clear d1 d2 l1 l2
              go_wp2_with fail
              go_roundw
              case rel => exact ⟨m + 1, by omega, by go_num, Hga.out, Hgb.out, QB.out⟩
              case measure => simp [intOf]; omega
        · have i1 : ¬ (k : Int) < 4 := by omega
          obtain rfl : k = 4 := by omega
          have bd := HVb.out 7
          obtain ⟨p, hp⟩ : ∃ p, V 0 - V 2 = p := ⟨_, rfl⟩
          obtain ⟨q, hq⟩ : ∃ q, bns V 7 = q := ⟨_, rfl⟩
          have hq3 : bns V 3 = -q := by rw [← hq]; simp only [bns]; omega
          have hp2 : bns V 2 = p := hp
          have hp6 : bns V 6 = p := hp
          rw [hq] at bd
          have a1 : wr.cell? ⟨ga, 1, none⟩ = some (.int .i64 0) := ha.cell 1
          have a5 : wr.cell? ⟨ga, 5, none⟩ = some (.int .i64 0) := ha.cell 5
          have a2 : wr.cell? ⟨ga, 2, none⟩ = some (.int .i64 p) := hp2 ▸ ha.cell 2
          have a6 : wr.cell? ⟨ga, 6, none⟩ = some (.int .i64 p) := hp6 ▸ ha.cell 6
          have a3 : wr.cell? ⟨ga, 3, none⟩ = some (.int .i64 (-q)) := hq3 ▸ ha.cell 3
          have a7 : wr.cell? ⟨ga, 7, none⟩ = some (.int .i64 q) := hq ▸ ha.cell 7
          have m1 : (p == p) = true := by simp
          have m2 : (-q == -q) = true := by simp
          have bd2 : -1073741824 ≤ q ∧ q ≤ 1073741824 := by omega
          obtain ⟨bd2, bd3⟩ := bd2
          clear ha hb hp hq hq3 hp2 hp6 bd
          go_wp2_with fail
          go_ret
          exact ⟨rfl, QB.out⟩
    have n2 : (E2 != 0) = true := by simpa using h2
    have HB8 : Hid (vArr 8 (bnV V) = #[.int .i64 (bns V 0), .int .i64 (bns V 1), .int .i64 (bns V 2), .int .i64 (bns V 3), .int .i64 (bns V 4), .int .i64 (bns V 5), .int .i64 (bns V 6), .int .i64 (bns V 7)]) := Lib.hid rfl
    have HU8 : Hid (vArr 8 (bnV V2) = #[.int .i64 (0), .int .i64 (0), .int .i64 (0), .int .i64 (0), .int .i64 (0), .int .i64 (0), .int .i64 (0), .int .i64 (0)]) := Lib.hid (bnV_zero V2 (HZ2.out h2))
    go_enter Try.func6, Try.ntmps6
    go_wp2_with fail
    refine (liveT_any _).mono ?_
    rintro e w0 ⟨rfl, b0⟩
    have QB := Lib.hid b0
    clear b0
    go_wp2_with fail
    refine (tof_any (HR.out.keep QB.out) hn).mono ?_
    rw [HE.out, HV.out, HB8.out]
    rintro e w1 ⟨rfl, b1⟩
    have KN : Blk (w1.alloc (.cells #[.int .i64 (bns V 0), .int .i64 (bns V 1), .int .i64 (bns V 2), .int .i64 (bns V 3), .int .i64 (bns V 4), .int .i64 (bns V 5), .int .i64 (bns V 6), .int .i64 (bns V 7)] 29)) w1.heap.size 29 #[.int .i64 (bns V 0), .int .i64 (bns V 1), .int .i64 (bns V 2), .int .i64 (bns V 3), .int .i64 (bns V 4), .int .i64 (bns V 5), .int .i64 (bns V 6), .int .i64 (bns V 7)] := Blk.new w1 _ _
    have KB : Below W.heap.size W (w1.alloc (.cells #[.int .i64 (bns V 0), .int .i64 (bns V 1), .int .i64 (bns V 2), .int .i64 (bns V 3), .int .i64 (bns V 4), .int .i64 (bns V 5), .int .i64 (bns V 6), .int .i64 (bns V 7)] 29)) := (QB.out.trans (b1.mono QB.out.size)).alloc (Nat.le_trans QB.out.size b1.size) _
    obtain ⟨ga, hga⟩ : ∃ h, w1.heap.size = h := ⟨_, rfl⟩
    rw [hga] at KN
    have Hga := Lib.hid KN
    have QB := Lib.hid KB
    clear  KN KB b1
    go_upto_region 6 with fail
    generalize World.alloc _ _ = v1 at *
    clear hga
    have hrow := later_row (w := v1) (c := c1) HWX.out ((HR.out.keep QB.out).keep ((Below.refl _ _).alloc (Nat.le_refl _) _)) (by have := HN4.out; omega)
    obtain ⟨A2, c2, w2, hrun, hIR, b2⟩ := hrow
    have HIR := Lib.hid hIR
    have Hga := Lib.hid (Hga.out.below b2 Hga.out.lt)
    have QB := Lib.hid (QB.out.trans (b2.mono QB.out.size))
    clear hIR b2
    go_wp2_with (at_builtin; refine wpList_append_run rfl (.tmp 25) (.tmp 26) 22 rfl rfl rfl hrun ?_)
    clear hrun
    refine (tof_any HIR.out hn2).mono ?_
    rw [HE2.out, HV2.out, HU8.out]
    rintro e w3 ⟨rfl, b3⟩
    have KHga : Blk (w3.alloc (.cells #[.int .i64 (0), .int .i64 (0), .int .i64 (0), .int .i64 (0), .int .i64 (0), .int .i64 (0), .int .i64 (0), .int .i64 (0)] 29)) ga 29 #[.int .i64 (bns V 0), .int .i64 (bns V 1), .int .i64 (bns V 2), .int .i64 (bns V 3), .int .i64 (bns V 4), .int .i64 (bns V 5), .int .i64 (bns V 6), .int .i64 (bns V 7)] := (Hga.out.below b3 Hga.out.lt).alloc _
    have KN : Blk (w3.alloc (.cells #[.int .i64 (0), .int .i64 (0), .int .i64 (0), .int .i64 (0), .int .i64 (0), .int .i64 (0), .int .i64 (0), .int .i64 (0)] 29)) w3.heap.size 29 #[.int .i64 (0), .int .i64 (0), .int .i64 (0), .int .i64 (0), .int .i64 (0), .int .i64 (0), .int .i64 (0), .int .i64 (0)] := Blk.new w3 _ _
    have KB : Below W.heap.size W (w3.alloc (.cells #[.int .i64 (0), .int .i64 (0), .int .i64 (0), .int .i64 (0), .int .i64 (0), .int .i64 (0), .int .i64 (0), .int .i64 (0)] 29)) := (QB.out.trans (b3.mono QB.out.size)).alloc (Nat.le_trans QB.out.size b3.size) _
    obtain ⟨gb, hgb⟩ : ∃ h, w3.heap.size = h := ⟨_, rfl⟩
    rw [hgb] at KN
    have Hga := Lib.hid KHga
    have Hgb := Lib.hid KN
    have QB := Lib.hid KB
    clear KHga KN KB b3
    go_upto_region 7 with fail
    generalize World.alloc _ _ = v3 at *
    clear hgb
    have cga0 : v3.cell? ⟨ga, 0, none⟩ = some (.int .i64 (bns V 0)) := Hga.out.cell 0
    have cga1 : v3.cell? ⟨ga, 1, none⟩ = some (.int .i64 (bns V 1)) := Hga.out.cell 1
    have cga2 : v3.cell? ⟨ga, 2, none⟩ = some (.int .i64 (bns V 2)) := Hga.out.cell 2
    have cga3 : v3.cell? ⟨ga, 3, none⟩ = some (.int .i64 (bns V 3)) := Hga.out.cell 3
    have cga4 : v3.cell? ⟨ga, 4, none⟩ = some (.int .i64 (bns V 4)) := Hga.out.cell 4
    have cga5 : v3.cell? ⟨ga, 5, none⟩ = some (.int .i64 (bns V 5)) := Hga.out.cell 5
    have cga6 : v3.cell? ⟨ga, 6, none⟩ = some (.int .i64 (bns V 6)) := Hga.out.cell 6
    have cga7 : v3.cell? ⟨ga, 7, none⟩ = some (.int .i64 (bns V 7)) := Hga.out.cell 7
    have cgb0 : v3.cell? ⟨gb, 0, none⟩ = some (.int .i64 (0)) := Hgb.out.cell 0
    have cgb1 : v3.cell? ⟨gb, 1, none⟩ = some (.int .i64 (0)) := Hgb.out.cell 1
    have cgb2 : v3.cell? ⟨gb, 2, none⟩ = some (.int .i64 (0)) := Hgb.out.cell 2
    have cgb3 : v3.cell? ⟨gb, 3, none⟩ = some (.int .i64 (0)) := Hgb.out.cell 3
    have cgb4 : v3.cell? ⟨gb, 4, none⟩ = some (.int .i64 (0)) := Hgb.out.cell 4
    have cgb5 : v3.cell? ⟨gb, 5, none⟩ = some (.int .i64 (0)) := Hgb.out.cell 5
    have cgb6 : v3.cell? ⟨gb, 6, none⟩ = some (.int .i64 (0)) := Hgb.out.cell 6
    have cgb7 : v3.cell? ⟨gb, 7, none⟩ = some (.int .i64 (0)) := Hgb.out.cell 7
    go_wp2_with fail
    go_ret
    exact ⟨rfl, QB.out⟩
  have n0 : (E != 0) = true := by simpa using h0
  have HB8 : Hid (vArr 8 (bnV V) = #[.int .i64 (0), .int .i64 (0), .int .i64 (0), .int .i64 (0), .int .i64 (0), .int .i64 (0), .int .i64 (0), .int .i64 (0)]) := Lib.hid (bnV_zero V (HZ.out h0))
  have HU8 : Hid (vArr 8 (bnV V2) = #[.int .i64 (bns V2 0), .int .i64 (bns V2 1), .int .i64 (bns V2 2), .int .i64 (bns V2 3), .int .i64 (bns V2 4), .int .i64 (bns V2 5), .int .i64 (bns V2 6), .int .i64 (bns V2 7)]) := Lib.hid rfl
  go_enter Try.func6, Try.ntmps6
  go_wp2_with fail
  refine (liveT_any _).mono ?_
  rintro e w0 ⟨rfl, b0⟩
  have QB := Lib.hid b0
  clear b0
  go_wp2_with fail
  refine (tof_any (HR.out.keep QB.out) hn).mono ?_
  rw [HE.out, HV.out, HB8.out]
  rintro e w1 ⟨rfl, b1⟩
  have KN : Blk (w1.alloc (.cells #[.int .i64 (0), .int .i64 (0), .int .i64 (0), .int .i64 (0), .int .i64 (0), .int .i64 (0), .int .i64 (0), .int .i64 (0)] 29)) w1.heap.size 29 #[.int .i64 (0), .int .i64 (0), .int .i64 (0), .int .i64 (0), .int .i64 (0), .int .i64 (0), .int .i64 (0), .int .i64 (0)] := Blk.new w1 _ _
  have KB : Below W.heap.size W (w1.alloc (.cells #[.int .i64 (0), .int .i64 (0), .int .i64 (0), .int .i64 (0), .int .i64 (0), .int .i64 (0), .int .i64 (0), .int .i64 (0)] 29)) := (QB.out.trans (b1.mono QB.out.size)).alloc (Nat.le_trans QB.out.size b1.size) _
  obtain ⟨ga, hga⟩ : ∃ h, w1.heap.size = h := ⟨_, rfl⟩
  rw [hga] at KN
  have Hga := Lib.hid KN
  have QB := Lib.hid KB
  clear  KN KB b1
  go_upto_region 6 with fail
  generalize World.alloc _ _ = v1 at *
  clear hga
  have hrow := later_row (w := v1) (c := c1) HWX.out ((HR.out.keep QB.out).keep ((Below.refl _ _).alloc (Nat.le_refl _) _)) (by have := HN4.out; omega)
  obtain ⟨A2, c2, w2, hrun, hIR, b2⟩ := hrow
  have HIR := Lib.hid hIR
  have Hga := Lib.hid (Hga.out.below b2 Hga.out.lt)
  have QB := Lib.hid (QB.out.trans (b2.mono QB.out.size))
  clear hIR b2
  go_wp2_with (at_builtin; refine wpList_append_run rfl (.tmp 25) (.tmp 26) 22 rfl rfl rfl hrun ?_)
  clear hrun
  refine (tof_any HIR.out hn2).mono ?_
  rw [HE2.out, HV2.out, HU8.out]
  rintro e w3 ⟨rfl, b3⟩
  have KHga : Blk (w3.alloc (.cells #[.int .i64 (bns V2 0), .int .i64 (bns V2 1), .int .i64 (bns V2 2), .int .i64 (bns V2 3), .int .i64 (bns V2 4), .int .i64 (bns V2 5), .int .i64 (bns V2 6), .int .i64 (bns V2 7)] 29)) ga 29 #[.int .i64 (0), .int .i64 (0), .int .i64 (0), .int .i64 (0), .int .i64 (0), .int .i64 (0), .int .i64 (0), .int .i64 (0)] := (Hga.out.below b3 Hga.out.lt).alloc _
  have KN : Blk (w3.alloc (.cells #[.int .i64 (bns V2 0), .int .i64 (bns V2 1), .int .i64 (bns V2 2), .int .i64 (bns V2 3), .int .i64 (bns V2 4), .int .i64 (bns V2 5), .int .i64 (bns V2 6), .int .i64 (bns V2 7)] 29)) w3.heap.size 29 #[.int .i64 (bns V2 0), .int .i64 (bns V2 1), .int .i64 (bns V2 2), .int .i64 (bns V2 3), .int .i64 (bns V2 4), .int .i64 (bns V2 5), .int .i64 (bns V2 6), .int .i64 (bns V2 7)] := Blk.new w3 _ _
  have KB : Below W.heap.size W (w3.alloc (.cells #[.int .i64 (bns V2 0), .int .i64 (bns V2 1), .int .i64 (bns V2 2), .int .i64 (bns V2 3), .int .i64 (bns V2 4), .int .i64 (bns V2 5), .int .i64 (bns V2 6), .int .i64 (bns V2 7)] 29)) := (QB.out.trans (b3.mono QB.out.size)).alloc (Nat.le_trans QB.out.size b3.size) _
  obtain ⟨gb, hgb⟩ : ∃ h, w3.heap.size = h := ⟨_, rfl⟩
  rw [hgb] at KN
  have Hga := Lib.hid KHga
  have Hgb := Lib.hid KN
  have QB := Lib.hid KB
  clear KHga KN KB b3
  go_upto_region 7 with fail
  generalize World.alloc _ _ = v3 at *
  clear hgb
  have cga0 : v3.cell? ⟨ga, 0, none⟩ = some (.int .i64 (0)) := Hga.out.cell 0
  have cga1 : v3.cell? ⟨ga, 1, none⟩ = some (.int .i64 (0)) := Hga.out.cell 1
  have cga2 : v3.cell? ⟨ga, 2, none⟩ = some (.int .i64 (0)) := Hga.out.cell 2
  have cga3 : v3.cell? ⟨ga, 3, none⟩ = some (.int .i64 (0)) := Hga.out.cell 3
  have cga4 : v3.cell? ⟨ga, 4, none⟩ = some (.int .i64 (0)) := Hga.out.cell 4
  have cga5 : v3.cell? ⟨ga, 5, none⟩ = some (.int .i64 (0)) := Hga.out.cell 5
  have cga6 : v3.cell? ⟨ga, 6, none⟩ = some (.int .i64 (0)) := Hga.out.cell 6
  have cga7 : v3.cell? ⟨ga, 7, none⟩ = some (.int .i64 (0)) := Hga.out.cell 7
  have cgb0 : v3.cell? ⟨gb, 0, none⟩ = some (.int .i64 (bns V2 0)) := Hgb.out.cell 0
  have cgb1 : v3.cell? ⟨gb, 1, none⟩ = some (.int .i64 (bns V2 1)) := Hgb.out.cell 1
  have cgb2 : v3.cell? ⟨gb, 2, none⟩ = some (.int .i64 (bns V2 2)) := Hgb.out.cell 2
  have cgb3 : v3.cell? ⟨gb, 3, none⟩ = some (.int .i64 (bns V2 3)) := Hgb.out.cell 3
  have cgb4 : v3.cell? ⟨gb, 4, none⟩ = some (.int .i64 (bns V2 4)) := Hgb.out.cell 4
  have cgb5 : v3.cell? ⟨gb, 5, none⟩ = some (.int .i64 (bns V2 5)) := Hgb.out.cell 5
  have cgb6 : v3.cell? ⟨gb, 6, none⟩ = some (.int .i64 (bns V2 6)) := Hgb.out.cell 6
  have cgb7 : v3.cell? ⟨gb, 7, none⟩ = some (.int .i64 (bns V2 7)) := Hgb.out.cell 7
  go_wp2_with fail
  go_ret
  exact ⟨rfl, QB.out⟩

theorem own : ownKnob Try.prog.godebug = none := by kernel_rfl
theorem laidOut : laidOutB Try.prog = true := by kernel_rfl
set_option maxRecDepth 100000 in
theorem lifted (os : Os) (started : os.Started) (H : Type) (enc : TypeId × Value → H) :
    ReturnsInHanded {} Try.checked os 6 .any (Rows.turnsLaterSpec.pre6 enc Try.prog Try.f6 Rows.turnsLaterRow.domain false) (Rows.turnsLaterSpec.post enc Try.prog Try.f6 false true false false) := by
  refine returnsInHanded_of_change (C := Try.checked) own started (by kernel_rfl) Try.func6
    (ChangeSpec.witness6 (enc := enc) (C := Try.checked) false ⟨#[], #[.slice none 0 0, .int .i64 0], []⟩ 8 (by kernel_rfl) (by kernel_rfl) (by kernel_rfl) (by kernel_rfl)) ?_
  intro W base args ds gs before hval0 hW _ _
  have hval : ∀ (j : Nat) t v, Try.f6.params[j]? = some t → args[j]? = some v → Value.okWide Try.prog W .any base t v := hval0
  have hW' := hW
  obtain ⟨p, q, hA0, hV, rfl, _, _⟩ := hW
  have hA : DataW.TrodAll enc Try.prog W 0 (fun _ => true) true Try.f6.params.toList args.toList ds p := hA0
  rw [Try.params6] at hA hval
  obtain ⟨v0, vs0, d0, ds0, p0, q0, hargs, rfl, rfl, h0, r0⟩ := trodAll_cons hA
  obtain ⟨v1, vs1, d1, ds1, p1, q1, rfl, rfl, rfl, h1, r1⟩ := trodAll_cons r0
  obtain ⟨rfl, rfl, rfl⟩ := trodAll_nil r1
  obtain rfl : args = #[v0, v1] := by cases args; simp_all
  obtain ⟨rfl, rfl⟩ := trodVars_none hV
  obtain ⟨A0, n0, c0, z0, rfl, g0, m0, R0⟩ := slice_ints Try.underlying22 Try.underlying3 (by kernel_rfl) (hval 0 22 v0 rfl rfl) h0
  obtain ⟨a1, rfl, rfl, rfl, w1⟩ := open_int Try.underlying3 (hval 1 3 v1 rfl rfl) h1
  clear hA0 hval0
  refine (walk A0 n0 c0 z0 g0 m0 R0 a1 w1).mono fun e W' ⟨he, hg⟩ => ?_
  subst he
  exact ⟨_, rfl, law_post rfl Try.underlying4 laidOut (by kernel_rfl) rfl hW' rfl hg⟩

theorem over : Rows.turnsLaterRow.holds Try.pinned (OpenSpec.ofChange Rows.turnsLaterSpec) :=
  OpenClaim.holds_of_wide 6 Try.f6 rfl rfl rfl rfl rfl rfl rfl ⟨rfl, rfl, rfl, rfl, rfl⟩ rfl rfl rfl rfl rfl (by kernel_rfl) Try.func6 (by kernel_rfl)
    (of_decide_eq_true (by kernel_rfl)) (by unfold Func.isWrapper; first | (rw [if_pos (by decide +kernel)]; kernel_rfl) | (rw [if_neg (by decide +kernel)]; exact ⟨rfl, rfl⟩))
    (fun os started H enc _ => lifted os started H enc)

theorem proved : Rows.TurnsLaterSaid := over
#print axioms proved
end Go.Proofs.Ytnelcbbjnpaodaa.turnsLater
