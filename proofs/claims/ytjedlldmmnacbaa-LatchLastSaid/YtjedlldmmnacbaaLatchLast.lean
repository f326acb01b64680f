/-
  For every input LatchLast returns true, and each argument reads behind the call as it read before. No conditions.
-/
import Derived.Test.YtjedlldmmnacbaaRows
import Derived.Test.YtjedlldmmnacbaaG3
import Derived.Test.YtjedlldmmnacbaaLat2
import Derived.Test.YtjedlldmmnacbaaLat5
namespace Go.Proofs.Ytjedlldmmnacbaa.latchLast
open Go.ChangeShapes Go.WideShapes Go.ChangeAt Go.RowKit
open Go.ChangeMaps (open_string)

set_option linter.unusedVariables false
set_option linter.unusedSimpArgs false
def wantTo (a : Int) (ps : Nat → Int × Int) : Nat → Nat → Bool
  | 0, i => rbit a i
  | k + 1, i => if rbit (ps k).1 i then rbit (ps k).2 i else wantTo a ps k i
theorem want_row {w : World} {A : Option Addr} {n : Nat} {ps : Nat → Int × Int} (v : Int) (v0 : 0 ≤ v) (v1 : v ≤ 255) (R : I2Row w .u8 .u8 A n ps) (i : Nat) (hi : i < 8) (k : Nat) (hk : k ≤ n) : rbit (rowAt v ps k) i = wantTo v ps k i := by
  induction k with
  | zero => rfl
  | succ k ih =>
    obtain ⟨ad, _, _, _, _, w1, w2⟩ := R k (by omega)
    have h := rowAt_bd v v0 v1 R k (by omega)
    simp only [rowAt, wantTo]
    rw [mix_bit _ _ _ h.1 h.2 (bounds_u8 w1).1 (bounds_u8 w1).2 (bounds_u8 w2).1 (bounds_u8 w2).2 i hi, ih (by omega)]
theorem store_new59 (W : World) (f f' : Nat → Int) : (storeCells ⟨W.heap.size, 0, none⟩ (iArr .i64 8 f').toList).run Try.prog (W.alloc (.cells (iArr .i64 8 f) 59)) = .ok () (W.alloc (.cells (iArr .i64 8 f') 59)) :=
  run_storeCells_new (P := Try.prog) W 59 (iArr .i64 8 f) (iArr .i64 8 f') (by rw [iArr_size]; exact size59) (by rw [iArr_size, iArr_size]) (by rw [Array.all_eq_true]; intro i hi; exact iArr_one .i64 8 f' _ (by simp))
set_option maxRecDepth 100000 in
set_option maxHeartbeats 4000000 in
theorem walk {W : World} (v : Int) (wv : (Lit.int .u8 v).wf = true) (A : Option Addr) (n c : Nat) (ps : Nat → Int × Int) (hnc : n ≤ c) (hm : c ≤ maxLen) (R : I2Row W .u8 .u8 A n ps) :
    Calls Try.prog 9 #[.int .u8 v, .slice A n c] W fun e w' => e = .returned (.bool true) ∧ Below W.heap.size W w' := by
  unfold maxLen at hm
  obtain ⟨v0, v1⟩ := bounds_u8 wv
  clear wv
  have HR := Lib.hid R
  clear R
  by_cases hn : 300 < n
  · have i1 : (300 : Int) < n := by omega
    go_enter Try.func9, Try.ntmps9
    go_wp2_with (go_at_call 24; refine (liveL_any _).mono ?_; rintro e w1 ⟨rfl, hB⟩)
    go_ret
    exact ⟨rfl, hB⟩
  have i1 : ¬ (300 : Int) < n := by omega
  have hz := zero59
  have hst := store_new59
  have hsz := iArr_size .i64 8
  go_enter Try.func9, Try.ntmps9
  go_wp2_with fail
  refine (liveL_any _).mono ?_
  rintro e w1 ⟨rfl, hB1⟩
  have s1 := hB1.size
  have HB1 := Lib.hid hB1
  clear hB1
  go_wp2_with fail
  refine (row_any v v0 v1 (HR.out.keep HB1.out) (by omega)).mono ?_
  rintro e w2 ⟨g, rfl, hg, r2, h2⟩
  have HB2 := Lib.hid (HB1.out.trans (h2.mono s1))
  have s2 := HB2.out.size
  clear h2 r2 HB1 i1
  go_wp2_with fail
  refine (last_any (HR.out.keep HB2.out) (by omega)).mono ?_
  rintro e w3 ⟨rfl, h3⟩
  have HB3 := Lib.hid (HB2.out.trans (h3.mono s2))
  have s3 := HB3.out.size
  clear h3 HB2
  go_wp2_with fail
  clear hz hst hsz
  have HB4 := Lib.hid (HB3.out.alloc s3 (.cells (iArr .i64 8 (lastTo ps n)) 59))
  have hb4 := Blk.new w3 59 (iArr .i64 8 (lastTo ps n))
  have HC4 : Hid (∀ i, i < 8 → (w3.alloc (.cells (iArr .i64 8 (lastTo ps n)) 59)).cell? ⟨w3.heap.size, i, none⟩ = some (.int .i64 (lastTo ps n i))) := Lib.hid fun i hi => by rw [hb4.cell i, iArr_at _ _ _ _ hi]
  have HR4 := Lib.hid (HR.out.keep HB4.out)
  obtain ⟨q, hq⟩ : ∃ q, rowAt v ps n = q := ⟨_, rfl⟩
  have hqb := rowAt_bd v v0 v1 HR.out n (Nat.le_refl _)
  rw [hq] at hqb
  obtain ⟨q0, q1⟩ := hqb
  have HW : Hid (∀ i : Nat, i < 8 → rbit q i = wantTo v ps n i) := Lib.hid fun i hi => by rw [← hq]; exact want_row v v0 v1 HR.out i hi n (Nat.le_refl _)
  rw [hq]
  clear hb4 HB3 hq
  generalize w3.alloc _ = w4 at *
  generalize w3.heap.size = g4 at *
  go_loop [8] (fun i => ∃ k : Nat, k ≤ 8 ∧ i = .int .i64 k) (fun i => 8 - (intOf i).toNat)
  case atStart => exact ⟨0, by omega, rfl⟩
  case round =>
    obtain ⟨k, hk, rfl⟩ := hrel
    by_cases hlt : k < 8
    · go_wp2_with fail
      refine (rbit_any v k _ v0 v1).mono ?_
      rintro e w' ⟨rfl, rfl⟩
      go_wp2_with fail
      go_loop [9, 10, 11] (fun want kk nn => ∃ j : Nat, j ≤ n ∧ nn = .int .i64 j ∧ want = .bool (wantTo v ps j k) ∧ kk = .int .i64 (lastTo ps j k)) (fun _ _ nn => n - (intOf nn).toNat)
      case atStart => exact ⟨0, by omega, rfl, rfl, rfl⟩
      case round =>
        obtain ⟨j, hj, rfl, rfl, rfl⟩ := hrel
        by_cases hjt : j < n
        · obtain ⟨ad, rfl, hl, c0, c1, w0, w1'⟩ := HR4.out j hjt
          obtain ⟨x0, x1⟩ := bounds_u8 w0
          obtain ⟨y0, y1⟩ := bounds_u8 w1'
          have c1' := cell_next c1
          obtain ⟨x, hx⟩ : ∃ x, (ps j).1 = x := ⟨_, rfl⟩
          obtain ⟨y, hy⟩ : ∃ y, (ps j).2 = y := ⟨_, rfl⟩
          rw [hx] at x0 x1 c0
          rw [hy] at y0 y1 c1'
          obtain ⟨r, hr⟩ : ∃ r, rbit x k = r := ⟨_, rfl⟩
          have ew : wantTo v ps (j + 1) k = if r then rbit y k else wantTo v ps j k := by simp only [wantTo, hx, hy, hr]
          have el : lastTo ps (j + 1) k = if r then (j : Int) else lastTo ps j k := by simp only [lastTo, hx, hr]
          have EW := Lib.hid ew
          have EL := Lib.hid el
          have HRR := Lib.hid hr
          have j0 : (0 : Int) ≤ (j : Int) := by omega
          have j1 : (j : Int) < n := by omega
          clear hx hy hr ew el w0 w1' c1
          go_wp2_with fail
          refine (rbit_any x k _ x0 x1).mono ?_
          rw [HRR.out]
          rintro e w' ⟨rfl, rfl⟩
          cases r
          · go_wp2_with fail
            go_round
            case rel => exact ⟨j + 1, by omega, by go_num, by rw [EW.out]; rfl, by rw [EL.out]; rfl⟩
            case measure => simp [intOf]; omega
          · go_wp2_with fail
            refine (rbit_any y k _ y0 y1).mono ?_
            rintro e w' ⟨rfl, rfl⟩
            go_wp2_with fail
            go_round
            case rel => exact ⟨j + 1, by omega, by go_num, by rw [EW.out]; rfl, by rw [EL.out]; rfl⟩
            case measure => simp [intOf]; omega
        · obtain rfl : j = n := by omega
          have k0 : (0 : Int) ≤ (k : Int) := by omega
          have k1 : (k : Int) < 8 := by omega
          have c4 := HC4.out k hlt
          obtain ⟨l, hl⟩ : ∃ l, lastTo ps j k = l := ⟨_, rfl⟩
          obtain ⟨b, hb⟩ : ∃ b, wantTo v ps j k = b := ⟨_, rfl⟩
          have HL := Lib.hid hl
          have HBb := Lib.hid hb
          rw [hl] at c4
          clear hl hb
          rw [HL.out, HBb.out]
          have nl : (l != l) = false := by simp
          go_wp2_with fail
          refine (rbit_any q k _ q0 q1).mono ?_
          rw [HW.out k hlt, HBb.out]
          rintro e w' ⟨rfl, rfl⟩
          have nb : (b != b) = false := by simp
          go_wp2_with fail
          go_round
          case rel => exact ⟨k + 1, by omega, by go_num⟩
          case measure => simp [intOf]; omega
    · obtain rfl : k = 8 := by omega
      go_wp2_with fail
      go_ret
      exact ⟨by simp, HB4.out⟩

theorem own : ownKnob Try.prog.godebug = none := by kernel_rfl
theorem laidOut : laidOutB Try.prog = true := by kernel_rfl
set_option maxRecDepth 100000 in
theorem lifted (os : Os) (started : os.Started) (H : Type) (enc : TypeId × Value → H) :
    ReturnsInHanded {} Try.checked os 9 .any (Rows.latchLastSpec.pre6 enc Try.prog Try.f9 Rows.latchLastRow.domain false) (Rows.latchLastSpec.post enc Try.prog Try.f9 false true false false) := by
  refine returnsInHanded_of_change (C := Try.checked) own started (by kernel_rfl) Try.func9
    (ChangeSpec.witness6 (enc := enc) (C := Try.checked) false ⟨#[], #[.int .u8 0, .slice none 0 0], []⟩ 8 (by kernel_rfl) (by kernel_rfl) (by kernel_rfl) (by kernel_rfl)) ?_
  intro W base args ds gs before hval0 hW _ _
  have hval : ∀ (j : Nat) t v, Try.f9.params[j]? = some t → args[j]? = some v → Value.okWide Try.prog W .any base t v := hval0
  have hW' := hW
  obtain ⟨p, q, hA0, hV, rfl, _, _⟩ := hW
  have hA : DataW.TrodAll enc Try.prog W 0 (fun _ => true) true Try.f9.params.toList args.toList ds p := hA0
  rw [Try.params9] at hA hval
  obtain ⟨v0, vs0, d0, ds0, p0, q0, hargs, rfl, rfl, h0, r0⟩ := trodAll_cons hA
  obtain ⟨v1, vs1, d1, ds1, p1, q1, rfl, rfl, rfl, h1, r1⟩ := trodAll_cons r0
  obtain ⟨rfl, rfl, rfl⟩ := trodAll_nil r1
  obtain rfl : args = #[v0, v1] := by cases args; simp_all
  obtain ⟨rfl, rfl⟩ := trodVars_none hV
  obtain ⟨a0, rfl, rfl, rfl, w0⟩ := open_int Try.underlying5 (hval 0 5 v0 rfl rfl) h0
  obtain ⟨A1, n1, c1, z1, rfl, g1, m1, R1⟩ := slice_pairs Try.underlying52 Try.underlying57 (by kernel_rfl) (by kernel_rfl) Try.underlying5 Try.underlying5 (hval 1 52 v1 rfl rfl) h1
  clear hA0 hval0
  refine (walk a0 w0 A1 n1 c1 z1 g1 m1 R1).mono fun e W' ⟨he, hg⟩ => ?_
  subst he
  exact ⟨_, rfl, law_post rfl Try.underlying4 laidOut (by kernel_rfl) rfl hW' rfl hg⟩

theorem over : Rows.latchLastRow.holds Try.pinned (OpenSpec.ofChange Rows.latchLastSpec) :=
  OpenClaim.holds_of_wide 9 Try.f9 rfl rfl rfl rfl rfl rfl rfl ⟨rfl, rfl, rfl, rfl, rfl⟩ rfl rfl rfl rfl rfl (by kernel_rfl) Try.func9 (by kernel_rfl)
    (of_decide_eq_true (by kernel_rfl)) (by unfold Func.isWrapper; first | (rw [if_pos (by decide +kernel)]; kernel_rfl) | (rw [if_neg (by decide +kernel)]; exact ⟨rfl, rfl⟩))
    (fun os started H enc _ => lifted os started H enc)

theorem proved : Rows.LatchLastSaid := over
#print axioms proved
end Go.Proofs.Ytjedlldmmnacbaa.latchLast
