/-
  Texts of these proofs, one behind the other: Tm8, Rtm4.
-/
import Derived.Test.YtmbbcfdeielopaaDoorRRRRKTK26
import Derived.Test.YtmbbcfdeielopaaDoorRRRRKTK27
import Derived.Laws.MakeOwn
import Derived.Laws.BytesArg
import Derived.Deep.QuietTactic
import Derived.BigQuiet
namespace Go.Proofs.YtmbbcfdeielopaaDoorRRRR
open Go.RowKit
set_option linter.unusedVariables false
set_option linter.unusedSimpArgs false
set_option maxRecDepth 100000
set_option maxHeartbeats 8000000
theorem tlongest_any (w : World) : Calls Tryd.prog 17 #[] w fun e w' => e = .returned (.int .i64 393233) ∧ w = w' := by
  go_enter Tryd.func17, Tryd.ntmps17
  go_wp2
  go_ret
  exact ⟨rfl, rfl⟩
theorem twrites_any (k : Int) (w : World) : Calls Tryd.prog 16 #[.int .u8 k] w fun e w' => e = .returned (.bool (k == 4 || k == 5)) ∧ w = w' := by
  by_cases h : k = 4
  · subst h
    go_enter Tryd.func16, Tryd.ntmps16
    go_wp2
    go_ret
    exact ⟨rfl, rfl⟩
  · have h1 : (k == 4) = false := by simpa using h
    rw [h1, Bool.false_or]
    clear h
    go_enter Tryd.func16, Tryd.ntmps16
    go_wp2
    go_ret
    exact ⟨rfl, rfl⟩
/-- The letter of a kind. -/
def chrT (x : Int) : Int := if x < 8 then (([70, 79, 68, 76, 83, 80, 85, 86] : List Int).getD x.toNat 63) else 63
def txtN (z : Nat → Int) (k : Nat) : List Int := (List.range k).map fun i => chrT (z i)
theorem txtN_len (z : Nat → Int) (k : Nat) : (txtN z k).length = k := by simp [txtN]
theorem chr_index (x : Int) (x0 : 0 ≤ x) (x1 : x < 8) (W : World) : (Instr.index 9 (.string ⟨#[70, 79, 68, 76, 83, 80, 85, 86]⟩) (.int .u8 x)).run Tryd.prog W = .ok (.int .u8 (chrT x)) W := by
  have h : x = 0 ∨ x = 1 ∨ x = 2 ∨ x = 3 ∨ x = 4 ∨ x = 5 ∨ x = 6 ∨ x = 7 := by omega
  clear x0 x1
  rcases h with rfl | rfl | rfl | rfl | rfl | rfl | rfl | rfl <;> rfl
/-- What has been written. -/
def TxR (w0 wr : World) (G : Nat) (z : Nat → Int) (n k : Nat) : Prop := Below w0.heap.size w0 wr ∧ w0.heap.size ≤ G ∧ ∃ cs : Array Value, Blk wr G 5 cs ∧ cs.size = n ∧ ∀ i, i < k → cs[i]? = some (.int .u8 (chrT (z i)))
theorem TxR.put {w0 wr : World} {G : Nat} {z : Nat → Int} {n k : Nat} (h : TxR w0 wr G z n k) (hk : k < n) : TxR w0 (wr.setCell ⟨G, k, none⟩ (.int .u8 (chrT (z k)))) G z n (k + 1) := by
  obtain ⟨h1, h2, cs, h3, h4, h5⟩ := h
  refine ⟨h1.setCell h2 _, h2, _, h3.set_ k _, by simpa using h4, fun i hi => ?_⟩
  by_cases e : i = k
  · subst e; simp [h4, hk]
  · rw [Array.getElem?_setIfInBounds_ne (fun x => e x.symm)]
    exact h5 i (by omega)
theorem TxR.put2 {w0 wr : World} {G : Nat} {z : Nat → Int} {n k : Nat} (h : TxR w0 wr G z n k) (hk : k < n) : TxR w0 ((wr.setCell ⟨G, k, none⟩ (.int .u8 63)).setCell ⟨G, k, none⟩ (.int .u8 (chrT (z k)))) G z n (k + 1) := by
  obtain ⟨h1, h2, cs, h3, h4, h5⟩ := h
  have h0 : TxR w0 (wr.setCell ⟨G, k, none⟩ (.int .u8 63)) G z n k := by
    refine ⟨h1.setCell h2 _, h2, _, h3.set_ k _, by simpa using h4, fun i hi => ?_⟩
    rw [Array.getElem?_setIfInBounds_ne (by omega)]
    exact h5 i hi
  exact h0.put hk
theorem ttext_any (A : Option Addr) (n c : Nat) (z : Nat → Int) (hn : n ≤ 1000000) (w : World) (R : IRow w .u8 A n z) :
    Calls Tryd.prog 15 #[.slice A n c] w fun e w' => e = .returned (.string (strOfNums (txtN z n))) ∧ Below w.heap.size w w' := by
  have HR := Lib.hid R
  obtain ⟨i, hi, hzz⟩ := Option.map_eq_some_iff.1 u8_info
  simp only [Prod.mk.injEq] at hzz
  obtain ⟨hz, hs, hb⟩ := hzz
  have hmk := run_makeSlice (P := Tryd.prog) (w := w) 25 5 i (.int .u8 0) Tryd.underlying25 hi hz .i64 .i64 (n : Int) (n : Int) (by omega) (Int.le_refl _) (by rw [hs]; simp; omega) (by rw [hb]; simp; omega) (by omega)
  obtain ⟨w1, hw1⟩ : ∃ w1, w.alloc (.cells (madeCells (Value.int .u8 0).cells ((n : Int).toNat * i.size)) 5) = w1 := ⟨_, rfl⟩
  have hT : TxR w w1 w.heap.size z n 0 := by
    rw [← hw1]
    exact ⟨(Below.refl _ w).alloc (Nat.le_refl _) _, Nat.le_refl _, _, Blk.new w _ _, by simp [madeCells, hs], fun i hi => absurd hi (by omega)⟩
  rw [hw1, Int.toNat_natCast] at hmk
  obtain ⟨G, hG⟩ : ∃ G, w.heap.size = G := ⟨_, rfl⟩
  rw [hG] at hmk hT
  have HT := Lib.hid hT
  have HG := Lib.hid hG
  clear R hi hz hs hb hw1 hT hG
  go_enter Tryd.func15, Tryd.ntmps15
  go_wp2
  go_loopw [11] (fun i wr => ∃ k : Nat, k ≤ n ∧ i = .int .i64 k ∧ TxR w wr G z n k) (fun i _ => n - (intOf i).toNat)
  case atStart => exact ⟨0, by omega, rfl, HT.out⟩
  case round =>
    obtain ⟨k, hk, rfl, hT⟩ := hrel
    have HTr := Lib.hid hT
    clear hT
    by_cases hlt : k < n
    · obtain ⟨ad, rfl, hal, hc, hwf⟩ := HR.out k hlt
      obtain ⟨z0, z1⟩ := bounds_u8 hwf
      obtain ⟨h1, h2, cs, h3, h4, h5⟩ := HTr.out
      have hc2 : wr.cell? (ad.add k) = some (.int .u8 (z k)) := (h1.cell (by rw [block_of_add]; exact hal)).trans hc
      obtain ⟨u, hu⟩ : ∃ u, cs[k]? = some u := ⟨cs[k]'(by omega), Array.getElem?_eq_getElem _⟩
      have hg : wr.cell? ⟨G, k, none⟩ = some u := by rw [h3.cell k]; exact hu
      have hf : wr.frozen? ⟨G, k, none⟩ = false := h3.frozen k
      have hix := fun (h8 : z k < 8) W => chr_index (z k) z0 h8 W
      have hge : ¬ z k < 8 → chrT (z k) = 63 := fun h => if_neg h
      have HGE := Lib.hid hge
      obtain ⟨x, hx⟩ : ∃ x, z k = x := ⟨_, rfl⟩
      have HX := Lib.hid hx
      have HP1 := Lib.hid (HTr.out.put hlt)
      have HP2 := Lib.hid (HTr.out.put2 hlt)
      rw [hx] at hc2 z0 z1 hix HGE HP1 HP2
      have xi : IntKind.i64.wrap x = x := IntWalk.i64_in _ (by omega)
      clear h1 h2 h3 h4 h5 hu hc hwf hge hx
      by_cases h8 : x < 8
      · have hix := hix h8
        go_wp2_with fail
        go_roundw
        case rel => exact ⟨k + 1, by omega, by go_num, HP2.out⟩
        case measure => simp [intOf]; omega
      · clear hix
        rw [HGE.out h8] at HP1
        go_wp2_with fail
        go_roundw
        case rel => exact ⟨k + 1, by omega, by go_num, HP1.out⟩
        case measure => simp [intOf]; omega
    · obtain rfl : k = n := by omega
      obtain ⟨h1, h2, cs, h3, h4, h5⟩ := HTr.out
      have hcv : (convert 25 9 (.slice (some ⟨G, 0, none⟩) k k)).run Tryd.prog wr = .ok (.string (strOfNums (txtN z k))) wr :=
        run_convert_bytes_arg wr 25 5 Tryd.underlying25 Tryd.underlying5 G 0 k k (txtN z k) (txtN_len z k) (fun i hi => by
          rw [Nat.zero_add, h3.cell i, h5 i hi]
          simp [txtN, List.getD, hi]) 9 Tryd.underlying9
      have HB := Lib.hid h1
      clear h1 h2 h3 h4 h5
      go_wp2_with fail
      go_ret
      exact ⟨rfl, HB.out⟩
end Go.Proofs.YtmbbcfdeielopaaDoorRRRR
namespace Go.Proofs.YtmbbcfdeielopaaDoorRRRR
open Go.RowKit
set_option linter.unusedVariables false
set_option linter.unusedSimpArgs false
set_option maxRecDepth 100000
set_option maxHeartbeats 8000000
def lettL : List UInt8 := [70, 79, 68, 76, 83, 80, 85, 86]
theorem let_index (k : Nat) (h : k < 8) (W : World) : (Instr.index 9 (.string ⟨#[70, 79, 68, 76, 83, 80, 85, 86]⟩) (.int .i64 (k : Int))).run Tryd.prog W = .ok (.int .u8 ((lettL.getD k 0).toNat : Int)) W := by
  have h : k = 0 ∨ k = 1 ∨ k = 2 ∨ k = 3 ∨ k = 4 ∨ k = 5 ∨ k = 6 ∨ k = 7 := by omega
  rcases h with rfl | rfl | rfl | rfl | rfl | rfl | rfl | rfl <;> rfl
theorem let_eq {c : UInt8} (hc : okL c = true) (k : Nat) (h : k < 8) : (((lettL.getD k 0).toNat : Int) == (c.toNat : Int)) = decide (k = knd c) := by
  have h : k = 0 ∨ k = 1 ∨ k = 2 ∨ k = 3 ∨ k = 4 ∨ k = 5 ∨ k = 6 ∨ k = 7 := by omega
  rcases okL_mem hc with rfl | rfl | rfl | rfl | rfl | rfl | rfl | rfl <;> rcases h with rfl | rfl | rfl | rfl | rfl | rfl | rfl | rfl <;> decide
theorem str_index (s : ByteArray) (j : Nat) (h : j < s.size) (W : World) : (Instr.index 9 (.string s) (.int .i64 (j : Int))).run Tryd.prog W = .ok (.int .u8 ((s.data[j]'h).toNat : Int)) W := by
  rw [run_index_string W _ _ _ _ Tryd.underlying9]
  simp [h]
  rfl
theorem rkinds_any (s : ByteArray) (hs : s.size ≤ 1000000) (hok : ∀ c ∈ s.data.toList, okL c = true) (w : World) :
    Calls Tryd.prog 11 #[.string s] w fun e w' => ∃ v, e = .returned v ∧ w'.ownsRow w.heap.size 5 1 v s.data.toList.length (kdV s.data.toList) ∧ Below w.heap.size w w' := by
  have HOK := Lib.hid hok
  clear hok
  go_enter Tryd.func11, Tryd.ntmps11
  go_wp2
  go_loopw [3, 4] (fun v i wr => ∃ j : Nat, j ≤ s.size ∧ i = .int .i64 j ∧ wr.ownsRow w.heap.size 5 1 v j (kdV (s.data.toList.take j)) ∧ Below w.heap.size w wr) (fun _ i _ => s.size - (intOf i).toNat)
  case atStart => exact ⟨0, by omega, rfl, World.ownsRow_nil _ _ _ _, Below.refl _ w⟩
  case round =>
    obtain ⟨j, hj, rfl, own, hB⟩ := hrel
    by_cases hlt : j < s.size
    · obtain ⟨c, hc⟩ : ∃ c, s.data[j]'hlt = c := ⟨_, rfl⟩
      have hcm : okL c = true := HOK.out c (by rw [← hc]; simp)
      have htk : s.data.toList.take (j + 1) = s.data.toList.take j ++ [c] := by
        rw [List.take_succ_eq_append_getElem (by simpa using hlt), ← hc]; simp
      have hkt : kdV (s.data.toList.take (j + 1)) = kdV (s.data.toList.take j) ++ [.int .u8 (knd c : Int)] := by rw [htk, kdV_app]; rfl
      have hq := (idx_knd hcm).2
      have HLE := Lib.hid (fun k h => let_eq hcm k h)
      obtain ⟨q, hqq⟩ : ∃ q, knd c = q := ⟨_, rfl⟩
      rw [hqq] at hq hkt HLE
      have HKT := Lib.hid hkt
      have OWN := Lib.hid own
      have HB := Lib.hid hB
      have HC := Lib.hid hc
      clear hcm htk hkt hqq own hB hc
      go_wp2_with fail
      go_loopw [3, 5] (fun v i wr => ∃ k : Nat, k ≤ 8 ∧ i = .int .i64 k ∧ (k ≤ q → wr.ownsRow w.heap.size 5 1 v j (kdV (s.data.toList.take j))) ∧ (q < k → wr.ownsRow w.heap.size 5 1 v (j + 1) (kdV (s.data.toList.take (j + 1)))) ∧ Below w.heap.size w wr) (fun _ i _ => 8 - (intOf i).toNat)
      case atStart => exact ⟨0, by omega, rfl, fun _ => OWN.out, fun h => absurd h (by omega), HB.out⟩
      case round =>
        obtain ⟨k, hk, rfl, o1, o2, hB2⟩ := hrel
        have O1 := Lib.hid o1
        have O2 := Lib.hid o2
        have HB2 := Lib.hid hB2
        clear o1 o2 hB2
        by_cases hk8 : k < 8
        · have hix := fun W => let_index k hk8 W
          have hle := HLE.out k hk8
          have hsx := fun W => str_index s j hlt W
          rw [HC.out] at hsx
          obtain ⟨x, hx⟩ : ∃ x : Int, ((lettL.getD k 0).toNat : Int) = x := ⟨_, rfl⟩
          obtain ⟨y, hy⟩ : ∃ y : Int, (c.toNat : Int) = y := ⟨_, rfl⟩
          rw [hx] at hix hle
          rw [hy] at hsx hle
          clear hx hy
          by_cases hkq : k = q
          · subst hkq
            rw [decide_eq_true rfl] at hle
            go_wp2_with fail
            go_quiet ((fail))
            have own3 : (wr.drewN nq).ownsRow w.heap.size 5 1 u3 j (kdV (s.data.toList.take j)) := own_belowG (O1.out (Nat.le_refl _)) (below_drewN' (Below.refl _ wr) nq)
            have hB3 := below_drewN' HB2.out nq
            obtain ⟨w4, hw4⟩ : ∃ w4, wr.drewN nq = w4 := ⟨_, rfl⟩
            rw [hw4] at own3 hB3 ⊢
            obtain ⟨v', w', hrun, own', gb, _⟩ := more_u8 (ty := 25) own3 (k : Int) (by omega) hB3.size
            have HB4 := Lib.hid ((hB3.alloc hB3.size (.cells #[.int .u8 (k : Int)] 5)).grown gb (by simp; have := hB3.size; omega) (fun i h => (own3.lt i h).1))
            rw [← HKT.out] at own'
            have OWN' := Lib.hid own'
            have k8 : IntKind.u8.wrap (k : Int) = k := by simp [IntKind.wrap, IntKind.signed, IntKind.bits]; omega
            clear own3 hB3 own' gb hw4 hix hsx hle
            go_wp2_with (at_builtin; refine wpList_append_run rfl (.tmp 22) (.tmp 25) 25 rfl rfl rfl hrun ?_)
            go_roundw
            case rel => exact ⟨k + 1, by omega, by go_num, fun h => absurd h (by omega), fun _ => OWN'.out, HB4.out⟩
            case measure => simp [intOf]; omega
          · rw [decide_eq_false hkq] at hle
            have HKQ := Lib.hid hkq
            clear hkq
            go_wp2_with fail
            go_quiet ((fail))
            have hB3 := below_drewN' HB2.out nq
            have o1 : k ≤ q → (wr.drewN nq).ownsRow w.heap.size 5 1 u3 j (kdV (s.data.toList.take j)) := fun h => own_belowG (O1.out h) (below_drewN' (Below.refl _ wr) nq)
            have o2 : q < k → (wr.drewN nq).ownsRow w.heap.size 5 1 u3 (j + 1) (kdV (s.data.toList.take (j + 1))) := fun h => own_belowG (O2.out h) (below_drewN' (Below.refl _ wr) nq)
            obtain ⟨w4, hw4⟩ : ∃ w4, wr.drewN nq = w4 := ⟨_, rfl⟩
            rw [hw4] at o1 o2 hB3 ⊢
            have O3 := Lib.hid o1
            have O4 := Lib.hid o2
            have HB4 := Lib.hid hB3
            clear o1 o2 hB3 hw4 hix hsx hle
            go_wp2_with fail
            go_roundw
            case rel => exact ⟨k + 1, by omega, by go_num, fun h => O3.out (by omega), fun h => O4.out (by have := HKQ.out; omega), HB4.out⟩
            case measure => simp [intOf]; omega
        · obtain rfl : k = 8 := by omega
          go_wp2_with fail
          go_roundw
          case rel => exact ⟨j + 1, by omega, by go_num, O2.out (by omega), HB2.out⟩
          case measure => simp [intOf]; omega
    · obtain rfl : j = s.size := by omega
      rw [List.take_of_length_le (by show s.data.size ≤ s.size; exact Nat.le_refl _)] at own
      have OWN := Lib.hid own
      have HB := Lib.hid hB
      clear own hB
      go_wp2_with fail
      go_ret
      exact ⟨_, rfl, OWN.out, HB.out⟩
end Go.Proofs.YtmbbcfdeielopaaDoorRRRR
