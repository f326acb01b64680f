/-
  For every input TimingKinds returns true, and each argument reads behind the call as it read before. The one condition: when the call begins the package-level variables that the row lists hold what the program lays in them (TIED: the card shows it of the text of the project, pruned to the packages that this seat loads).
-/
import Derived.Test.YtmbbcfdeielopaaDoorRRRRRows
import Derived.Test.YtmbbcfdeielopaaDoorRRRRKTK01
import Derived.SevenTiedAt
import Derived.ProofKit
import Derived.LaidMore
import Derived.OpenShut
import Derived.Stop.Joined
import Derived.Test.YtmbbcfdeielopaaDoorRRRRCards
import Derived.Test.YtmbbcfdeielopaaDoorRRRRTie
import Derived.Test.YtmbbcfdeielopaaDoorRRRRKTK39
import Derived.Test.YtmbbcfdeielopaaDoorRRRRKTK56
namespace Go.Proofs.YtmbbcfdeielopaaDoorRRRR.timingKinds
open Go.ChangeShapes Go.WideShapes Go.ChangeAt Go.RowKit
open Go.ChangeMaps (open_string)

set_option linter.unusedVariables false
set_option linter.unusedSimpArgs false
set_option maxRecDepth 100000 in
set_option maxHeartbeats 8000000 in
theorem walk (k : Int) (wk : (Lit.int .u8 k).wf = true) (A : Option Addr) (n c : Nat) (zl : Nat → Int) (gc : n ≤ c) (mc : c ≤ maxLen) {W : World} (R : IRow W .u8 A n zl) (hT : Tabs W) :
    Calls Tryd.prog 4 #[.int .u8 k, .slice A n c] W fun e w' => e = .returned (.bool true) ∧ Below W.heap.size W w' := by
  obtain ⟨k0, k1⟩ := bounds_u8 wk
  obtain ⟨k, rfl⟩ : ∃ m : Nat, k = m := ⟨k.toNat, by omega⟩
  have HR := Lib.hid R
  unfold maxLen at mc
  have hq63 : (n : Int) ≤ 9223372036854775807 := by omega
  have hEn := fun W => tentry_any k W
  clear wk R hT
  by_cases h1 : (300 : Int) < n
  · skip
    go_enter Tryd.func4, Tryd.ntmps4
    go_wp2_with fail
    refine (live29_any _).mono ?_
    rintro e W1 ⟨rfl, hb⟩
    have HB1 := Lib.hid hb
    clear hb
    go_wp2_with fail
    go_ret
    exact ⟨rfl, HB1.out⟩
  have hn3 : n ≤ 300 := by omega
  have hkw : Hid ((((k : Int) == 4 || (k : Int) == 5) == ((k : Int) == 4 || (k : Int) == 5)) = true) := Lib.hid (by simp)
  by_cases hk : 1 ≤ k ∧ k ≤ 5
  · have hPl := fun W => rplan_yes k zst zst_ok hk W
    have hln := enL_len k hk
    have hkk := fun i h d2 => spL_kd k hk i h d2
    have HKK := Lib.hid hkk
    have hok := enL_ok k
    have HEK : Hid (∀ i, (kdL (enL k)).getD i 0 = enK k i) := Lib.hid fun i => rfl
    obtain ⟨D2, hD2⟩ : ∃ D2, rwith (rwith (zst 4) 5 false) 4 false = D2 := ⟨_, rfl⟩
    rw [hD2] at hPl
    clear hkk hD2 hk
    go_enter Tryd.func4, Tryd.ntmps4
    go_wp2_with fail
    refine (live29_any _).mono ?_
    rintro e W1 ⟨rfl, hb⟩
    have HB1 := Lib.hid hb
    clear hb
    go_wp2_with fail
    refine (hEn _).mono ?_
    rintro e W2 ⟨v, rfl, own, hb⟩
    obtain ⟨A1, cap1, rfl, R1⟩ := ownK_of own hok
    rw [hln] at R1 ⊢
    have HR1 := Lib.hid R1
    have HB2 := Lib.hid (HB1.out.trans (hb.mono HB1.out.size))
    clear hb own R1 hEn hln hok
    go_wp2_with fail
    refine (hPl _).mono ?_
    rintro e W3 ⟨v2, rfl, own, hb⟩
    obtain ⟨g, cap2, rfl⟩ := ownsRow_succ own
    have HR3 := Lib.hid (HR1.out.keep hb)
    have HBk := Lib.hid (HB2.out.trans (hb.mono HB2.out.size))
    have HOW := Lib.hid own
    clear hb own hPl HR1
    go_wp2_with fail
    go_loopw [7] (fun i wr => ∃ j : Nat, ∃ q : Nat, j ≤ 8 ∧ i = .int .i64 j ∧ wr = W3.drewN q) (fun i _ => 8 - (intOf i).toNat)
    case atStart => exact ⟨0, 0, by omega, rfl, rfl⟩
    case round =>
      obtain ⟨j, q, hj, rfl, rfl⟩ := hrel
      by_cases hlt : j < 8
      · obtain ⟨ad, rfl, hal, hc, hw⟩ := HR3.out j hlt
        have hc1 : (W3.drewN q).cell? (ad.add j) = some (.int .u8 (enK k j)) := hc
        have hc2 : (W3.drewN q).cell? ⟨g, j * 4, none⟩ = some (.int .u8 (enK k j)) := by
          have := HOW.out.cells rfl (j * 4) _ (HKK.out j hlt D2)
          rw [add_zero_block] at this
          exact this
        obtain ⟨x, hx⟩ : ∃ x, enK k j = x := ⟨_, rfl⟩
        rw [hx] at hc1 hc2
        have exx : (x != x) = false := by simp
        obtain ⟨w5, hw5⟩ : ∃ w5, W3.drewN q = w5 := ⟨_, rfl⟩
        have HW5 := Lib.hid hw5
        rw [hw5] at hc1 hc2 ⊢
        clear hal hc hw hx hw5
        go_wp2_with fail
        go_quiet ((fail))
        have hw6 : w5.drewN nq = W3.drewN (q + nq) := by rw [← HW5.out]; simp [World.drewN, Nat.add_assoc]
        have HW6 := Lib.hid hw6
        clear hw6 hc1 hc2
        go_wp2_with fail
        go_roundw
        case rel => exact ⟨j + 1, _, by omega, by go_num, HW6.out⟩
        case measure => simp [intOf]; omega
      · obtain rfl : j = 8 := by omega
        have HBk := Lib.hid (below_drewN' HBk.out q)
        obtain ⟨w5, hw5⟩ : ∃ w5, W3.drewN q = w5 := ⟨_, rfl⟩
        rw [hw5] at HBk ⊢
        clear hw5 hlt hj
        go_wp2_with fail
        refine (ttext_any A n c zl (by omega) _ (HR.out.keep HBk.out)).mono ?_
        rintro e W4 ⟨rfl, hb⟩
        have HB4 := Lib.hid (HBk.out.trans (hb.mono HBk.out.size))
        have hsz : (strOfNums (txtN zl n)).size = n := by rw [strOfNums_size, txtN_len]
        have hxx := fun (j : Nat) (h : j < n) (h0 : 0 ≤ zl j) W => txt_index zl n j h h0 W
        obtain ⟨X, hX⟩ : ∃ X, strOfNums (txtN zl n) = X := ⟨_, rfl⟩
        rw [hX] at hsz hxx ⊢
        have HXX := Lib.hid hxx
        have HR4 := Lib.hid (HR.out.keep HB4.out)
        have hsn : ((X.size : Int) != (n : Int)) = false := by simp [hsz]
        have hsl : n ≤ X.size := by omega
        have hsu : X.size ≤ 300 := by omega
        clear hb hX hxx hsz
        go_wp2_with fail
        go_loop [9] (fun i => ∃ j : Nat, j ≤ n ∧ i = .int .i64 j) (fun i => n - (intOf i).toNat)
        case atStart => exact ⟨0, by omega, rfl⟩
        case round =>
          obtain ⟨j, hj, rfl⟩ := hrel
          by_cases hlt : j < n
          · obtain ⟨ad, rfl, hal, hc, hw⟩ := HR4.out j hlt
            obtain ⟨z0, z1⟩ := bounds_u8 hw
            have hix := fun (h8 : zl j < 8) W => chr_index (zl j) z0 h8 W
            have hxj := HXX.out j hlt z0
            have hge : ¬ zl j < 8 → chrT (zl j) = 63 := fun h => if_neg h
            obtain ⟨x, hx⟩ : ∃ x, zl j = x := ⟨_, rfl⟩
            rw [hx] at hc z0 z1 hix hxj hge
            obtain ⟨y, hy⟩ : ∃ y, chrT x = y := ⟨_, rfl⟩
            rw [hy] at hix hxj hge
            have eyy : (y != y) = false := by simp
            clear hx hal hw hy
            by_cases h8 : x < 8
            · have hix := hix h8
              clear hge
              go_wp2_with fail
              go_round
              case rel => exact ⟨j + 1, by omega, by go_num⟩
              case measure => simp [intOf]; omega
            · have h63 := hge h8
              subst h63
              clear hix hge
              go_wp2_with fail
              go_round
              case rel => exact ⟨j + 1, by omega, by go_num⟩
              case measure => simp [intOf]; omega
          · obtain rfl : j = n := by omega
            clear hsl hsu hsn
            cases h4 : ((k : Int) == 4) <;> cases h5 : ((k : Int) == 5)
            all_goals
              go_wp2_with (go_at_call 16; refine (twrites_any _ _).mono ?_; rintro e w' ⟨rfl, rfl⟩)
              go_ret
              exact ⟨rfl, HB4.out⟩
  · have hPl := fun W => rplan_no k zst hk W
    have e0 : enL k = [] := by unfold enL; rw [if_neg (by omega), if_neg (by omega)]
    rw [e0] at hEn
    clear hk e0
    go_enter Tryd.func4, Tryd.ntmps4
    go_wp2_with fail
    refine (live29_any _).mono ?_
    rintro e W1 ⟨rfl, hb⟩
    have HB1 := Lib.hid hb
    clear hb
    go_wp2_with fail
    refine (hEn _).mono ?_
    rintro e W2 ⟨v, rfl, own, hb⟩
    obtain ⟨A1, cap1, rfl, R1⟩ := ownK_of own (by simp)
    have HB2 := Lib.hid (HB1.out.trans (hb.mono HB1.out.size))
    clear hb own R1 hEn
    go_wp2_with fail
    refine (hPl _).mono ?_
    rintro e W3 ⟨rfl, hb⟩
    have HBk := Lib.hid (HB2.out.trans (hb.mono HB2.out.size))
    clear hb hPl
    go_wp2_with fail
    go_loop [7] (fun i => i = .int .i64 0) (fun _ => 0)
    case atStart => rfl
    case round =>
      obtain rfl := hrel
      go_wp2_with fail
      refine (ttext_any A n c zl (by omega) _ (HR.out.keep HBk.out)).mono ?_
      rintro e W4 ⟨rfl, hb⟩
      have HB4 := Lib.hid (HBk.out.trans (hb.mono HBk.out.size))
      have hsz : (strOfNums (txtN zl n)).size = n := by rw [strOfNums_size, txtN_len]
      have hxx := fun (j : Nat) (h : j < n) (h0 : 0 ≤ zl j) W => txt_index zl n j h h0 W
      obtain ⟨X, hX⟩ : ∃ X, strOfNums (txtN zl n) = X := ⟨_, rfl⟩
      rw [hX] at hsz hxx ⊢
      have HXX := Lib.hid hxx
      have HR4 := Lib.hid (HR.out.keep HB4.out)
      have hsn : ((X.size : Int) != (n : Int)) = false := by simp [hsz]
      have hsl : n ≤ X.size := by omega
      have hsu : X.size ≤ 300 := by omega
      clear hb hX hxx hsz
      go_wp2_with fail
      go_loop [9] (fun i => ∃ j : Nat, j ≤ n ∧ i = .int .i64 j) (fun i => n - (intOf i).toNat)
      case atStart => exact ⟨0, by omega, rfl⟩
      case round =>
        obtain ⟨j, hj, rfl⟩ := hrel
        by_cases hlt : j < n
        · obtain ⟨ad, rfl, hal, hc, hw⟩ := HR4.out j hlt
          obtain ⟨z0, z1⟩ := bounds_u8 hw
          have hix := fun (h8 : zl j < 8) W => chr_index (zl j) z0 h8 W
          have hxj := HXX.out j hlt z0
          have hge : ¬ zl j < 8 → chrT (zl j) = 63 := fun h => if_neg h
          obtain ⟨x, hx⟩ : ∃ x, zl j = x := ⟨_, rfl⟩
          rw [hx] at hc z0 z1 hix hxj hge
          obtain ⟨y, hy⟩ : ∃ y, chrT x = y := ⟨_, rfl⟩
          rw [hy] at hix hxj hge
          have eyy : (y != y) = false := by simp
          clear hx hal hw hy
          by_cases h8 : x < 8
          · have hix := hix h8
            clear hge
            go_wp2_with fail
            go_round
            case rel => exact ⟨j + 1, by omega, by go_num⟩
            case measure => simp [intOf]; omega
          · have h63 := hge h8
            subst h63
            clear hix hge
            go_wp2_with fail
            go_round
            case rel => exact ⟨j + 1, by omega, by go_num⟩
            case measure => simp [intOf]; omega
        · obtain rfl : j = n := by omega
          clear hsl hsu hsn
          cases h4 : ((k : Int) == 4) <;> cases h5 : ((k : Int) == 5)
          all_goals
            go_wp2_with (go_at_call 16; refine (twrites_any _ _).mono ?_; rintro e w' ⟨rfl, rfl⟩)
            go_ret
            exact ⟨rfl, HB4.out⟩

theorem own : ownKnob Tryd.prog.godebug = none := by kernel_rfl
theorem laidOut : laidOutB Tryd.prog = true := by kernel_rfl
set_option maxRecDepth 100000 in
theorem lifted (os : Os) (started : os.Started) (H : Type) (enc : TypeId × Value → H) :
    ReturnsInHanded {} Tryd.checked os 4 .any (fun w args => (Rows.timingKindsSpec.pre enc Tryd.prog Tryd.f4 [] false w args ∧ laidMetH Tryd.prog laid2 w) ∧ sizedMet enc Tryd.prog Tryd.f4 (OpenSpec.ofChange Rows.timingKindsSpec) false w args)
      (Rows.timingKindsSpec.post enc Tryd.prog Tryd.f4 false true false false) := by
  refine returnsInHanded_of_change_and (C := Tryd.checked) (X := fun w _ => laidMetH Tryd.prog laid2 w) (fun _ _ _ hh h => h.of_heap hh) own started (by kernel_rfl) Tryd.func4
    (ChangeSpec.witness_shaped (enc := enc) (C := Tryd.checked) (os := os) (X := fun w _ => laidMetH Tryd.prog laid2 w) false (World.laidAll Tryd.prog os laid2) #[.int .u8 0, .slice none 0 0] 8 (World.laidAll_os _ _ _) (World.shaped_of_ZipB (by kernel_rfl) (by kernel_rfl)) (by kernel_rfl) (by kernel_rfl) (by kernel_rfl) (by rw [MakeChecks.laidMetH_plain _ _ _ (by kernel_rfl)]; exact laidMet_laidAll _ (by kernel_rfl) (by kernel_rfl))) ?_
  intro W base args ds gs before hval0 hW _ _ hL0 _
  have hL : laidMetH Tryd.prog laid2 W := hL0
  rw [MakeChecks.laidMetH_plain _ _ _ (by kernel_rfl)] at hL
  have HT := of_laid hL
  have hval : ∀ (j : Nat) t v, Tryd.f4.params[j]? = some t → args[j]? = some v → Value.okWide Tryd.prog W .any base t v := hval0
  have hW' := hW
  obtain ⟨p, q, hA0, hV, rfl, _, _⟩ := hW
  have hA : DataW.TrodAll enc Tryd.prog W 0 (fun _ => true) true Tryd.f4.params.toList args.toList ds p := hA0
  rw [Tryd.params4] at hA hval
  obtain ⟨v0, vs0, d0, ds0, p0, q0, hargs, rfl, rfl, h0, r0⟩ := trodAll_cons hA
  obtain ⟨v1, vs1, d1, ds1, p1, q1, rfl, rfl, rfl, h1, r1⟩ := trodAll_cons r0
  obtain ⟨rfl, rfl, rfl⟩ := trodAll_nil r1
  obtain rfl : args = #[v0, v1] := by cases args; simp_all
  obtain ⟨rfl, rfl⟩ := trodVars_none hV
  obtain ⟨a0, rfl, rfl, rfl, w0⟩ := open_int Tryd.underlying5 (hval 0 5 v0 rfl rfl) h0
  obtain ⟨A1, n1, c1, z1, rfl, g1, m1, R1⟩ := slice_ints Tryd.underlying25 Tryd.underlying5 (by kernel_rfl) (hval 1 25 v1 rfl rfl) h1
  clear hA0 hval0
  refine (walk a0 w0 A1 n1 c1 z1 g1 m1 R1 HT).mono fun e W' ⟨he, hg⟩ => ?_
  subst he
  exact ⟨_, rfl, law_post rfl Tryd.underlying4 laidOut (by kernel_rfl) rfl hW' rfl hg⟩

theorem over : Rows.timingKindsRow.holds Tryd.pinned (OpenSpec.ofChange Rows.timingKindsSpec) :=
  OpenClaim.holds_of_wide 4 Tryd.f4 rfl rfl rfl rfl rfl rfl rfl ⟨rfl, rfl, rfl, rfl, rfl⟩ rfl rfl rfl rfl rfl (by kernel_rfl) Tryd.func4 (by kernel_rfl)
    (of_decide_eq_true (by kernel_rfl)) (by unfold Func.isWrapper; first | (rw [if_pos (by decide +kernel)]; kernel_rfl) | (rw [if_neg (by decide +kernel)]; exact ⟨rfl, rfl⟩))
    (fun os started H enc _ => lifted os started H enc)

theorem proved : Rows.TimingKindsCardSaid :=
  Claim7.holds_tied_plain_at .later [] [.data, .pinned] true _ false
    over (fun _ h => by cases h) (by kernel_rfl) (fun _ h => by cases h) timingKinds_row_tie rfl ⟨rfl, rfl⟩ (by kernel_rfl) rfl
    (fun f fn hf hfn => by
      obtain rfl : f = 4 := Option.some.inj ((show Tryd.prog.funcNamed "gannet/gannetlaw29.TimingKinds" = some 4 by kernel_rfl).symm.trans hf) |>.symm
      obtain rfl : fn = Tryd.f4 := (Option.some.inj (Tryd.func4.symm.trans hfn)).symm
      exact ⟨by kernel_rfl, fun j t ht => by
        rw [Tryd.params4] at ht
        have hm : t ∈ [5, 25] := by simpa using Array.mem_of_getElem? ht
        have hall : ([5, 25].all fun u => !Tryd.prog.wantsStandIn u) = true := by kernel_rfl
        exact (show Tryd.prog.wantsStandIn t = false by simpa using List.all_eq_true.1 hall t hm)⟩)
    (by kernel_rfl)
#print axioms proved
end Go.Proofs.YtmbbcfdeielopaaDoorRRRR.timingKinds
