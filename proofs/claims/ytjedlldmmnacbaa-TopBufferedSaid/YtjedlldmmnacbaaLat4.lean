/-
  Of each bit the last step that drove it: latch.Last, for every row of at most 1000 steps; it only makes memory.
-/
import Derived.Test.YtjedlldmmnacbaaLat3
import Derived.Test.YtjedlldmmnacbaaG18
import Derived.Laws.CopyOwn
namespace Go.Proofs.Ytjedlldmmnacbaa
open Go.RowKit
set_option linter.unusedVariables false
set_option maxRecDepth 100000
theorem lat_bit_all : ∀ b : Nat, b < 256 → ∀ n : Nat, n < 8 → bitB b n = rbit b n := by decide +kernel
theorem lat_bit (b : Int) (h0 : 0 ≤ b) (h1 : b ≤ 255) (n : Nat) (hn : n < 8) : bitB b n = rbit b n := by
  obtain ⟨m, rfl⟩ := Int.eq_ofNat_of_zero_le h0
  exact lat_bit_all m (by omega) n hn
def lastTo (ps : Nat → Int × Int) : Nat → Nat → Int
  | 0, _ => -1
  | k + 1, i => if rbit (ps k).1 i then (k : Int) else lastTo ps k i
theorem lastTo_bd (ps : Nat → Int × Int) (k i : Nat) : -1 ≤ lastTo ps k i ∧ lastTo ps k i ≤ k := by
  induction k with
  | zero => simp [lastTo]
  | succ k ih => simp only [lastTo]; split <;> omega
def lastMid (ps : Nat → Int × Int) (k j i : Nat) : Int := if i < j then lastTo ps (k + 1) i else lastTo ps k i
theorem iArr_minus : (#[.int .i64 (-1), .int .i64 (-1), .int .i64 (-1), .int .i64 (-1), .int .i64 (-1), .int .i64 (-1), .int .i64 (-1), .int .i64 (-1)] : Array Value) = iArr .i64 8 fun _ => -1 := by rfl
theorem info59 : (Try.prog.info? 59).map (fun i => (i.zero, i.size)) = some (some (.agg (iArr .i64 8 fun _ => 0)), 8) := by kernel_rfl
theorem zero59 (w : World) : (zeroValue 59).run Try.prog w = .ok (.agg (iArr .i64 8 fun _ => 0)) w := (zero_of_info info59).1 w
theorem size59 : (Try.prog.info? 59).map (·.size) = some 8 := (zero_of_info info59).2
set_option maxHeartbeats 2000000 in
theorem last_any {w : World} {A : Option Addr} {n c : Nat} {ps : Nat → Int × Int} (R : I2Row w .u8 .u8 A n ps) (hn : n ≤ 1000) :
    Calls Try.prog 30 #[.slice A n c] w fun e w' => e = .returned (.agg (iArr .i64 8 (lastTo ps n))) ∧ Below w.heap.size w w' := by
  have HR := Lib.hid R
  clear R
  go_enter Try.func30, Try.ntmps30
  go_wp2_with fail
  have hb0 : Blk ((w.alloc (.cells (iArr .i64 8 fun _ => 0) 59)).alloc (.cells (iArr .i64 8 fun _ => -1) 59)) w.heap.size 59 (iArr .i64 8 fun _ => 0) := (Blk.new w _ _).alloc _
  have hb1 : Blk ((w.alloc (.cells (iArr .i64 8 fun _ => 0) 59)).alloc (.cells (iArr .i64 8 fun _ => -1) 59)) (w.heap.size + 1) 59 (iArr .i64 8 (lastTo ps 0)) := Blk.new_ (by simp)
  have hB0 : Below w.heap.size w ((w.alloc (.cells (iArr .i64 8 fun _ => 0) 59)).alloc (.cells (iArr .i64 8 fun _ => -1) 59)) := ((Below.refl _ _).alloc (Nat.le_refl _) _).alloc (by simp) _
  generalize hgg : w.heap.size = g at *
  have HGG := Lib.hid hgg
  clear hgg
  go_loopw [10] (fun i wr => ∃ k : Nat, k ≤ n ∧ i = .int .i64 k ∧ Blk wr g 59 (iArr .i64 8 fun _ => 0) ∧ Blk wr (g + 1) 59 (iArr .i64 8 (lastTo ps k)) ∧ Below g w wr) (fun i _ => n - (intOf i).toNat)
  case atStart => exact ⟨0, by omega, rfl, hb0, hb1, hB0⟩
  case round =>
    obtain ⟨k, hk, rfl, hg, ho, hB⟩ := hrel
    obtain ⟨wo, rfl⟩ : ∃ wo : World, wo = wr := ⟨_, rfl⟩
    have zB := hB.size
    rw [HGG.out] at zB
    have hol := ho.lt
    by_cases hlt : k < n
    · obtain ⟨ad, rfl, hl, h0, h1, w0, w1⟩ := HR.out k hlt
      rw [HGG.out] at hl
      have hc0 := (hB.cell (p := ad.add (k * 2)) (by rw [block_of_add]; exact hl)).trans h0
      have hc1 := cell_next ((hB.cell (p := ad.add (k * 2 + 1)) (by rw [block_of_add]; exact hl)).trans h1)
      obtain ⟨x, hx⟩ : ∃ x, (ps k).1 = x := ⟨_, rfl⟩
      obtain ⟨y, hy⟩ : ∃ y, (ps k).2 = y := ⟨_, rfl⟩
      rw [hx] at hc0 w0
      rw [hy] at hc1
      obtain ⟨x0, x1⟩ := bounds_u8 w0
      have HX := Lib.hid hx
      have HL := Lib.hid hl
      have HG := Lib.hid hg
      have HO := Lib.hid ho
      have HB := Lib.hid hB
      clear h0 h1 hx hy hl hg ho hB hb0 hb1 hB0 w0 w1
      go_wp2_with fail
      have hs1 : Blk (wo.alloc (.cells #[.int .u8 x, .int .u8 y] 57)) wo.heap.size 57 #[.int .u8 x, .int .u8 y] := Blk.new wo _ _
      have hg1 := HG.out.alloc (.cells #[.int .u8 x, .int .u8 y] 57)
      have ho1 := HO.out.alloc (.cells #[.int .u8 x, .int .u8 y] 57)
      have hB1 := HB.out.alloc zB (.cells #[.int .u8 x, .int .u8 y] 57)
      rw [show iArr .i64 8 (lastTo ps k) = iArr .i64 8 (lastMid ps k 0) from iArr_congr fun i _ => by unfold lastMid; rw [if_neg (by omega)]] at ho1
      generalize wo.heap.size = s at *
      clear HG HO HB
      go_loopw [15] (fun i wi => ∃ j : Nat, j ≤ 8 ∧ i = .int .i64 j ∧ Blk wi s 57 #[.int .u8 x, .int .u8 y] ∧ Blk wi g 59 (iArr .i64 8 fun _ => 0) ∧ Blk wi (g + 1) 59 (iArr .i64 8 (lastMid ps k j)) ∧ Below g w wi) (fun i _ => 8 - (intOf i).toNat)
      case atStart => exact ⟨0, by omega, rfl, hs1, hg1, ho1, hB1⟩
      case round =>
        obtain ⟨j, hj, rfl, hs, hg, ho, hB⟩ := hrel
        clear hs1 hg1 ho1 hB1
        by_cases hjt : j < 8
        · have hc : wr.cell? ⟨s, 0, none⟩ = some (.int .u8 x) := hs.cell 0
          have j0 : (0 : Int) ≤ j := by omega
          have j1 : (j : Int) < 8 := by omega
          have HS := Lib.hid hs
          have HG := Lib.hid hg
          have HB := Lib.hid hB
          obtain ⟨r, hr⟩ : ∃ r, rbit x j = r := ⟨_, rfl⟩
          have HR := Lib.hid hr
          clear hs hg hB hr
          have zk := lastTo_bd ps k j
          cases r
          · have e1 : iArr .i64 8 (lastMid ps k j) = iArr .i64 8 (lastMid ps k (j + 1)) := iArr_congr fun i _ => by
              unfold lastMid
              by_cases h : i = j
              · subst h; rw [if_neg (by omega), if_pos (by omega)]; simp [lastTo, HX.out, HR.out]
              · by_cases h2 : i < j
                · rw [if_pos h2, if_pos (by omega)]
                · rw [if_neg h2, if_neg (by omega)]
            rw [e1] at ho
            have HO := Lib.hid ho
            clear ho e1
            go_wp2_with fail
            refine (bit_any _ _ _).mono ?_
            rw [lat_bit x x0 x1 j hjt, HR.out]
            rintro e w' ⟨rfl, rfl⟩
            go_wp2_with fail
            go_roundw
            case rel => exact ⟨j + 1, by omega, by go_num, HS.out, HG.out, HO.out, HB.out⟩
            case measure => simp [intOf]; omega
          · have hcj : wr.cell? ⟨g + 1, j, none⟩ = some (.int .i64 (lastMid ps k j j)) := by rw [ho.cell j, iArr_at _ _ _ _ hjt]
            have hfj := ho.frozen j
            have ho2 := ho.set_ j (.int .i64 (k : Int))
            rw [iArr_set] at ho2
            rw [show iArr .i64 8 (fun i => if i = j then (k : Int) else lastMid ps k j i) = iArr .i64 8 (lastMid ps k (j + 1)) from iArr_congr fun i _ => by
              unfold lastMid
              by_cases h : i = j
              · subst h; rw [if_pos rfl, if_pos (by omega)]; simp [lastTo, HX.out, HR.out]
              · rw [if_neg h]
                by_cases h2 : i < j
                · rw [if_pos h2, if_pos (by omega)]
                · rw [if_neg h2, if_neg (by omega)]] at ho2
            have HO := Lib.hid ho2
            have HS2 := Lib.hid (HS.out.far (p := ⟨g + 1, j, none⟩) (HS.out.ne_ ho (by decide)) (.int .i64 (k : Int)))
            have HG2 := Lib.hid (HG.out.far (p := ⟨g + 1, j, none⟩) (by simp) (.int .i64 (k : Int)))
            have HB2 := Lib.hid (HB.out.setCell (p := ⟨g + 1, j, none⟩) (show g ≤ g + 1 by omega) (.int .i64 (k : Int)))
            clear ho ho2 HS HG HB
            go_wp2_with fail
            refine (bit_any _ _ _).mono ?_
            rw [lat_bit x x0 x1 j hjt, HR.out]
            rintro e w' ⟨rfl, rfl⟩
            go_wp2_with fail
            go_roundw
            case rel => exact ⟨j + 1, by omega, by go_num, HS2.out, HG2.out, HO.out, HB2.out⟩
            case measure => simp [intOf]; omega
        · obtain rfl : j = 8 := by omega
          have HG := Lib.hid hg
          have HB := Lib.hid hB
          rw [show iArr .i64 8 (lastMid ps k 8) = iArr .i64 8 (lastTo ps (k + 1)) from iArr_congr fun i hi => by unfold lastMid; rw [if_pos hi]] at ho
          have HO := Lib.hid ho
          clear hs hg hB ho
          go_wp2_with fail
          go_roundw
          case rel => exact ⟨k + 1, by omega, by go_num, HG.out, HO.out, HB.out⟩
          case measure => simp [intOf]; omega
    · obtain rfl : k = n := by omega
      have hst := hg.run_store (P := Try.prog) (iArr .i64 8 (lastTo ps k)) (by rw [iArr_size, iArr_size]) (iArr_one _ _ _)
      have hsz := iArr_size .i64 8 (lastTo ps k)
      have h8 : (Try.prog.info? 59).map (·.size) = some (iArr .i64 8 (lastTo ps k)).size := by rw [iArr_size]; exact size59
      have H8 := Lib.hid h8
      have hld := (hg.row (iArr .i64 8 (lastTo ps k))).run_load (P := Try.prog) Try.underlying59 rfl h8
      have HD := Lib.hid hld
      have hB2 := below_setRow hB (Nat.le_refl g) (iArr .i64 8 (lastTo ps k))
      clear h8 hld
      go_wp2_with (refine wpList_load_row rfl 59 (.tmp 3) rfl (g + 1) (by rfl) 59 (iArr .i64 8 (lastTo ps k)) (0, 0) _ ho Try.underlying59 rfl H8.out ?_)
      refine bodyPost_ret (v := .agg (iArr .i64 8 (lastTo ps k))) (results_cell (a := ⟨g, 0, none⟩) Try.results30 (by rfl) HD.out) rfl ?_
      exact ⟨rfl, by rw [HGG.out]; exact hB2⟩
end Go.Proofs.Ytjedlldmmnacbaa
