/-
  For every input OpcodeWalks returns true, and each argument reads behind the call as it read before. The one condition: when the call begins the package-level variables that the row lists hold what the program lays in them (TIED: the card shows it of the text of the project, pruned to the packages that this seat loads).
-/
import Derived.Test.YtleofglnlfpoeaaDoorRows
import Derived.Test.YtleofglnlfpoeaaDoorG3
import Derived.SevenTiedAt
import Derived.ProofKit
import Derived.LaidMore
import Derived.OpenShut
import Derived.Stop.Joined
import Derived.Test.YtleofglnlfpoeaaDoorCards
import Derived.Test.YtleofglnlfpoeaaDoorTie
import Derived.Test.YtleofglnlfpoeaaDoorOpc11
import Derived.Test.YtleofglnlfpoeaaDoorRop7
import Derived.Test.YtleofglnlfpoeaaDoorG13
import Derived.Test.YtleofglnlfpoeaaDoorLaid12
namespace Go.Proofs.YtleofglnlfpoeaaDoor.opcodeWalks
open Go.ChangeShapes Go.WideShapes Go.ChangeAt Go.RowKit
open Go.ChangeMaps (open_string)

set_option linter.unusedVariables false
set_option linter.unusedSimpArgs false
set_option maxRecDepth 100000 in
set_option maxHeartbeats 8000000 in
theorem walk {W : World} (A : Option Addr) (n c : Nat) (z : Nat → Int) (gc : n ≤ c) (mc : c ≤ maxLen) (R : IRow W .u8 A n z) (hT : Tabs W) :
    Calls Tryd.prog 6 #[.slice A n c] W fun e w' => e = .returned (.bool true) ∧ Below W.heap.size W w' := by
  have HR := Lib.hid R
  have hns : (n : Int) ≤ 9223372036854775807 := by unfold maxLen at mc; omega
  clear hT R mc
  by_cases hbig : 1000 < n
  · have h1 : (1000 : Int) < n := by omega
    go_enter Tryd.func6, Tryd.ntmps6
    go_wp2_with fail
    refine (live23).mono ?_
    rintro e w0 ⟨rfl, b0⟩
    have HB0 := Lib.hid b0
    clear b0
    go_wp2_with fail
    go_ret
    exact ⟨rfl, HB0.out⟩
  · have h1 : ¬ (1000 : Int) < n := by omega
    go_enter Tryd.func6, Tryd.ntmps6
    go_wp2_with fail
    refine (live23).mono ?_
    rintro e w0 ⟨rfl, b0⟩
    have HB0 := Lib.hid b0
    clear b0
    go_wp2_with fail
    refine (owalk_any A n c z (by omega) w0 (HR.out.keep HB0.out)).mono ?_
    rintro e w1 ⟨v, m, rfl, own, hall, hpn, hend, b1⟩
    have HB1 := Lib.hid (HB0.out.trans (b1.mono HB0.out.size))
    have HR1 := Lib.hid (HR.out.keep HB1.out)
    have hpg := posN_ge z m
    have hlv : ∃ p cap, v = .slice p m cap := by
      rcases own.2 with ⟨rfl, rfl⟩ | ⟨g, cap, _, rfl, _⟩
      · exact ⟨_, _, rfl⟩
      · exact ⟨_, _, rfl⟩
    obtain ⟨pv, cap, rfl⟩ := hlv
    have hm : m ≤ 1000 := by omega
    have HCL := Lib.hid (posRow own)
    have HALL := Lib.hid hall
    have HEND := Lib.hid hend
    have HPN := Lib.hid hpn
    have h1000 : n ≤ 1000 := by omega
    clear own hall hend hpn b1 h1 hbig
    go_wp2_with fail
    go_loopw [5, 6] (fun a i wr => ∃ k : Nat, k ≤ m ∧ i = .int .i64 k ∧ a = .int .i64 (posN z k : Int) ∧ Below w1.heap.size w1 wr) (fun _ i _ => m - (intOf i).toNat)
    case atStart => exact ⟨0, by omega, rfl, rfl, Below.refl _ _⟩
    case round =>
      obtain ⟨k, hk, rfl, rfl, hB⟩ := hrel
      have HB2 := Lib.hid (HB1.out.trans (hB.mono HB1.out.size))
      have EP : posN z (k + 1) = posN z k + szN (z (posN z k)) := rfl
      by_cases hlt : k < m
      · obtain ⟨hp1, hp2⟩ := HALL.out k hlt
        obtain ⟨ad1, rfl, had1, hcl1⟩ := HCL.out k hlt
        have hcl2 := (hB.cell (p := ad1.add k) (by rw [block_of_add]; exact had1)).trans hcl1
        obtain ⟨p, hp⟩ : ∃ p, posN z k = p := ⟨_, rfl⟩
        rw [hp] at EP hp1 hp2 hcl2 ⊢
        obtain ⟨ad, rfl, hal, hc, hwf⟩ := HR1.out p hp1
        have hc2 := (hB.cell (p := ad.add p) (by rw [block_of_add]; exact hal)).trans hc
        obtain ⟨z0, z1⟩ := bounds_u8 hwf
        have hz1 := szN_eq (z p)
        have hz2 := szN_bd (z p)
        obtain ⟨b, hb⟩ : ∃ b : Nat, (z p) = (b : Int) := ⟨(z p).toNat, by omega⟩
        have hOf := fun W => rof_any b (by omega) W
        have hfl := fun (k : Int) (W : World) => rop_field (mkS (opN b)) (opM b : Int) k (opY b : Int) (opK b) W
        rw [← hb] at hOf
        rw [show (z p).toNat = b by omega] at hz1
        unfold rV at hOf
        rw [← hz1] at hOf
        obtain ⟨sz, hsz⟩ : ∃ sz, szN (z p) = sz := ⟨_, rfl⟩
        rw [hsz] at hOf hz2 EP hp2
        have k0 : (0 : Int) ≤ k := by omega
        have k1 : (k : Int) < m := by omega
        have p0 : (0 : Int) ≤ p := by omega
        have p1 : (p : Int) < n := by omega
        have k2 : IntKind.i64.wrap ((p : Int) + sz) = p + sz := IntWalk.i64_in _ (by omega)
        have HEP := Lib.hid EP
        have HBw := Lib.hid hB
        have hpp : ((p : Int) != p) = false := by simp
        clear hc hwf hb hz1 hsz hB hcl1 hp EP
        go_wp2_with fail
        refine (hOf _).mono ?_
        rintro e w2 ⟨rfl, b2⟩
        have HB3 := Lib.hid (HBw.out.trans (b2.mono HBw.out.size))
        clear b2
        go_wp2_with fail
        go_roundw
        case rel => exact ⟨k + 1, by omega, by go_num, by rw [HEP.out]; go_num, HB3.out⟩
        case measure => simp [intOf]; omega
      · obtain rfl : k = m := by omega
        have hnn : ¬ (k : Int) < k := by omega
        have hen := HEND.out
        have hpn := HPN.out
        obtain ⟨p, hp⟩ : ∃ p, posN z k = p := ⟨_, rfl⟩
        rw [hp] at hen hpn ⊢
        have hpp : ((p : Int) == p) = true := by simp
        have p0 : (0 : Int) ≤ p := by omega
        have p1 : (p : Int) ≤ n := by omega
        by_cases hq : p = n
        · have hq1 : ((p : Int) == n) = true := by simp [hq]
          have HBe := Lib.hid HB2
          clear hB EP hen hp
          go_wp2_with fail
          go_ret
          exact ⟨rfl, HB2.out⟩
        · have hq1 : ((p : Int) == n) = false := by simp; omega
          have hpl : p < n := by omega
          obtain ⟨ad, rfl, hal, hc, hwf⟩ := HR1.out p hpl
          have hc2 := (hB.cell (p := ad.add p) (by rw [block_of_add]; exact hal)).trans hc
          obtain ⟨z0, z1⟩ := bounds_u8 hwf
          have hz1 := szN_eq (z p)
          have hz2 := szN_bd (z p)
          obtain ⟨b, hb⟩ : ∃ b : Nat, (z p) = (b : Int) := ⟨(z p).toNat, by omega⟩
          have hOf := fun W => rof_any b (by omega) W
          have hfl := fun (k : Int) (W : World) => rop_field (mkS (opN b)) (opM b : Int) k (opY b : Int) (opK b) W
          rw [← hb] at hOf
          rw [show (z p).toNat = b by omega] at hz1
          unfold rV at hOf
          rw [← hz1] at hOf
          obtain ⟨sz, hsz⟩ : ∃ sz, szN (z p) = sz := ⟨_, rfl⟩
          rw [hsz] at hOf hz2 hen
          have hgt : (n : Int) - p < sz := by omega
          have p2 : (p : Int) < n := by omega
          have k2 : IntKind.i64.wrap ((n : Int) - p) = n - p := IntWalk.i64_in _ (by omega)
          have HBw := Lib.hid HB2
          clear hc hwf hb hz1 hsz hB hp EP hen
          go_wp2_with fail
          refine (hOf _).mono ?_
          rintro e w2 ⟨rfl, b2⟩
          have HB3 := Lib.hid (HB2.out.trans (b2.mono HB2.out.size))
          clear b2
          go_wp2_with fail
          go_ret
          exact ⟨rfl, HB3.out⟩

theorem own : ownKnob Tryd.prog.godebug = none := by kernel_rfl
theorem laidOut : laidOutB Tryd.prog = true := by kernel_rfl
set_option maxRecDepth 100000 in
theorem lifted (os : Os) (started : os.Started) (H : Type) (enc : TypeId × Value → H) :
    ReturnsInHanded {} Tryd.checked os 6 .any (fun w args => (Rows.opcodeWalksSpec.pre enc Tryd.prog Tryd.f6 [] false w args ∧ laidMetH Tryd.prog laid2 w) ∧ sizedMet enc Tryd.prog Tryd.f6 (OpenSpec.ofChange Rows.opcodeWalksSpec) false w args)
      (Rows.opcodeWalksSpec.post enc Tryd.prog Tryd.f6 false true false false) := by
  refine returnsInHanded_of_change_and (C := Tryd.checked) (X := fun w _ => laidMetH Tryd.prog laid2 w) (fun _ _ _ hh h => h.of_heap hh) own started (by kernel_rfl) Tryd.func6
    (ChangeSpec.witness_shaped (enc := enc) (C := Tryd.checked) (os := os) (X := fun w _ => laidMetH Tryd.prog laid2 w) false (World.laidAll Tryd.prog os laid2) #[.slice none 0 0] 8 (World.laidAll_os _ _ _) (World.shaped_of_ZipB (by kernel_rfl) (by kernel_rfl)) (by kernel_rfl) (by kernel_rfl) (by kernel_rfl) (by rw [MakeChecks.laidMetH_plain _ _ _ (by kernel_rfl)]; exact laidMet_laidAll _ (by kernel_rfl) (by kernel_rfl))) ?_
  intro W base args ds gs before hval0 hW _ _ hL0 _
  have hL : laidMetH Tryd.prog laid2 W := hL0
  rw [MakeChecks.laidMetH_plain _ _ _ (by kernel_rfl)] at hL
  have HT := of_laid hL
  have hval : ∀ (j : Nat) t v, Tryd.f6.params[j]? = some t → args[j]? = some v → Value.okWide Tryd.prog W .any base t v := hval0
  have hW' := hW
  obtain ⟨p, q, hA0, hV, rfl, _, _⟩ := hW
  have hA : DataW.TrodAll enc Tryd.prog W 0 (fun _ => true) true Tryd.f6.params.toList args.toList ds p := hA0
  rw [Tryd.params6] at hA hval
  obtain ⟨v0, vs0, d0, ds0, p0, q0, hargs, rfl, rfl, h0, r0⟩ := trodAll_cons hA
  obtain ⟨rfl, rfl, rfl⟩ := trodAll_nil r0
  obtain rfl : args = #[v0] := by cases args; simp_all
  obtain ⟨rfl, rfl⟩ := trodVars_none hV
  obtain ⟨A0, n0, c0, z0, rfl, g0, m0, R0⟩ := slice_ints Tryd.underlying33 Tryd.underlying5 (by kernel_rfl) (hval 0 33 v0 rfl rfl) h0
  clear hA0 hval0
  refine (walk A0 n0 c0 z0 g0 m0 R0 HT).mono fun e W' ⟨he, hg⟩ => ?_
  subst he
  exact ⟨_, rfl, law_post rfl Tryd.underlying4 laidOut (by kernel_rfl) rfl hW' rfl hg⟩

theorem over : Rows.opcodeWalksRow.holds Tryd.pinned (OpenSpec.ofChange Rows.opcodeWalksSpec) :=
  OpenClaim.holds_of_wide 6 Tryd.f6 rfl rfl rfl rfl rfl rfl rfl ⟨rfl, rfl, rfl, rfl, rfl⟩ rfl rfl rfl rfl rfl (by kernel_rfl) Tryd.func6 (by kernel_rfl)
    (of_decide_eq_true (by kernel_rfl)) (by unfold Func.isWrapper; first | (rw [if_pos (by decide +kernel)]; kernel_rfl) | (rw [if_neg (by decide +kernel)]; exact ⟨rfl, rfl⟩))
    (fun os started H enc _ => lifted os started H enc)

theorem proved : Rows.OpcodeWalksCardSaid :=
  Claim7.holds_tied_plain_at .later [] [.data, .pinned] true _ false
    over (fun _ h => by cases h) (by kernel_rfl) (fun _ h => by cases h) opcodeWalks_row_tie rfl ⟨rfl, rfl⟩ (by kernel_rfl) rfl
    (fun f fn hf hfn => by
      obtain rfl : f = 6 := Option.some.inj ((show Tryd.prog.funcNamed "gannet/gannetlaw23.OpcodeWalks" = some 6 by kernel_rfl).symm.trans hf) |>.symm
      obtain rfl : fn = Tryd.f6 := (Option.some.inj (Tryd.func6.symm.trans hfn)).symm
      exact ⟨by kernel_rfl, fun j t ht => by
        rw [Tryd.params6] at ht
        have hm : t ∈ [33] := by simpa using Array.mem_of_getElem? ht
        have hall : ([33].all fun u => !Tryd.prog.wantsStandIn u) = true := by kernel_rfl
        exact (show Tryd.prog.wantsStandIn t = false by simpa using List.all_eq_true.1 hall t hm)⟩)
    (by kernel_rfl)
#print axioms proved
end Go.Proofs.YtleofglnlfpoeaaDoor.opcodeWalks
