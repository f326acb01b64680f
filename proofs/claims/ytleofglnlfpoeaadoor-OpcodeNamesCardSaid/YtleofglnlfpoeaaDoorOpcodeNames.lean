/-
  For every input OpcodeNames returns true, and each argument reads behind the call as it read before. The one condition: when the call begins the package-level variables that the row lists hold what the program lays in them (TIED: the card shows it of the text of the project, pruned to the packages that this seat loads).
-/
import Derived.Test.YtleofglnlfpoeaaDoorRows
import Derived.Test.YtleofglnlfpoeaaDoorG3
import Derived.SevenTiedAt
import Derived.ProofKit
import Derived.LaidMore
import Derived.OpenShut
import Derived.Stop.Joined
import Derived.Test.YtleofglnlfpoeaaDoorCards
import Derived.Test.YtleofglnlfpoeaaDoorTie
import Derived.Test.YtleofglnlfpoeaaDoorOpc12
import Derived.Test.YtleofglnlfpoeaaDoorRop7
import Derived.Test.YtleofglnlfpoeaaDoorLaid12
namespace Go.Proofs.YtleofglnlfpoeaaDoor.opcodeNames
open Go.ChangeShapes Go.WideShapes Go.ChangeAt Go.RowKit
open Go.ChangeMaps (open_string)

set_option linter.unusedVariables false
set_option linter.unusedSimpArgs false
set_option maxRecDepth 100000 in
set_option maxHeartbeats 8000000 in
theorem walk (b : Int) (wb : (Lit.int .u8 b).wf = true) (s : ByteArray) (ws : s.size ≤ maxLen) (W : World) (hT : Tabs W) :
    Calls Tryd.prog 5 #[.int .u8 b, .string s] W fun e w' => e = .returned (.bool true) ∧ Below W.heap.size W w' := by
  obtain ⟨b0, b1⟩ := bounds_u8 wb
  obtain ⟨n, rfl⟩ : ∃ n : Nat, b = n := ⟨b.toNat, by omega⟩
  have hn : n < 256 := by omega
  have hR := fun W => rof_any n hn W
  have h1 := cntU_one n hn
  have h2 := cntU_any s.toList
  unfold rV at hR
  have hfl := fun (m z y : Int) (k : Bool) (W : World) => rop_field0 (mkS (opN n)) m z y k W
  obtain ⟨S, hS⟩ : ∃ S, mkS (opN n) = S := ⟨_, rfl⟩
  have hSl : opN n = S.toList := by rw [← hS, mkS_toList]
  rw [hS] at hR hfl
  rw [hSl] at h1
  have H1 := Lib.hid h1
  have H2 := Lib.hid h2
  clear wb hT h1 h2 hS hSl
  go_enter Tryd.func5, Tryd.ntmps5
  go_wp2_with fail
  refine (live23).mono ?_
  rintro e w0 ⟨rfl, b0⟩
  have HB0 := Lib.hid b0
  clear b0
  go_wp2_with fail
  refine (onames_any _).mono ?_
  rintro e w1 ⟨v, rfl, own, b1⟩
  have HB1 := Lib.hid (HB0.out.trans (b1.mono HB0.out.size))
  have hal : allN = uL := allN_eq
  rw [hal] at own
  have hl115 : uL.length = unqN.length := uL_len
  rw [unq_len] at hl115
  have own' := own
  rw [hl115] at own'
  obtain ⟨g, cap, rfl⟩ := ownsRow_succ own'
  have hcl := nmRow own' hl115
  have hg : g < w1.heap.size := cell_lt (hcl 0 (by omega))
  have HCL := Lib.hid hcl
  have HL := Lib.hid hl115
  clear own own' b1 hal hcl hl115
  go_wp2_with fail
  refine (hR _).mono ?_
  rintro e w2 ⟨rfl, b2⟩
  have HB2 := Lib.hid (HB1.out.trans (b2.mono HB1.out.size))
  have HC2 := Lib.hid (fun k hk => (b2.cell (p := ⟨g, k, none⟩) hg).trans (HCL.out k hk))
  have hg2 : g < w2.heap.size := Nat.lt_of_lt_of_le hg b2.size
  clear b2 hR
  go_wp2_with fail
  go_loopw [7, 8, 10] (fun p q i wr => ∃ k : Nat, k ≤ 117 ∧ i = .int .i64 k ∧ p = .int .i64 (cntU S.toList k : Int) ∧ q = .int .i64 (cntU s.toList k : Int) ∧ Below w2.heap.size w2 wr) (fun _ _ i _ => 117 - (intOf i).toNat)
  case atStart => exact ⟨0, by omega, rfl, rfl, rfl, Below.refl _ _⟩
  case round =>
    obtain ⟨k, hk, rfl, rfl, rfl, hB⟩ := hrel
    have hlU := HL.out
    by_cases hlt : k < 117
    · have cS := cntU_le S.toList k
      have cs := cntU_le s.toList k
      have hck : ∀ j, j < 117 → wr.cell? ⟨g, j, none⟩ = some (.string (mkS (uL.getD j []))) := fun j hj => (hB.cell (p := ⟨g, j, none⟩) hg2).trans (HC2.out j hj)
      have y1 := cntU_yes S.toList k (by omega)
      have n1 := cntU_no S.toList k (by omega)
      have y2 := cntU_yes s.toList k (by omega)
      have n2 := cntU_no s.toList k (by omega)
      have hcx := hck k hlt
      have hlt1 := uL_lt k
      have hcp : 0 < k → wr.cell? ⟨g, k - 1, none⟩ = some (.string (mkS (uL.getD (k - 1) []))) := fun h => hck (k - 1) (by omega)
      obtain ⟨X, hX⟩ : ∃ X, mkS (uL.getD k []) = X := ⟨_, rfl⟩
      have hXl : uL.getD k [] = X.toList := by rw [← hX, mkS_toList]
      rw [hX] at hcx
      rw [hXl] at y1 n1 y2 n2 hlt1
      obtain ⟨P, hP⟩ : ∃ P, mkS (uL.getD (k - 1) []) = P := ⟨_, rfl⟩
      have hPl : uL.getD (k - 1) [] = P.toList := by rw [← hP, mkS_toList]
      rw [hP] at hcp
      rw [hPl] at hlt1
      obtain ⟨c1, hc1⟩ : ∃ c, cntU S.toList k = c := ⟨_, rfl⟩
      obtain ⟨c2, hc2⟩ : ∃ c, cntU s.toList k = c := ⟨_, rfl⟩
      rw [hc1] at y1 n1 cS ⊢
      rw [hc2] at y2 n2 cs ⊢
      obtain ⟨z1, hz1⟩ : ∃ z, (X.toList == S.toList) = z := ⟨_, rfl⟩
      obtain ⟨z2, hz2⟩ : ∃ z, (X.toList == s.toList) = z := ⟨_, rfl⟩
      rw [hz1] at y1 n1
      rw [hz2] at y2 n2
      have Y1 := Lib.hid y1
      have N1 := Lib.hid n1
      have Y2 := Lib.hid y2
      have N2 := Lib.hid n2
      have HBr := Lib.hid hB
      have k0 : (0 : Int) ≤ k := by omega
      have k1 : (k : Int) < 117 := by omega
      clear y1 n1 y2 n2 hck hX hXl hP hPl hc1 hc2 hB
      rcases k with _ | j
      · clear hcp hlt1
        cases z1 <;> cases z2
        all_goals
          go_wp2
          go_quiet (fail)
          go_wp2
          go_roundw
          case rel => exact ⟨1, by omega, by go_num, by first | rw [N1.out (by first | rfl | trivial)] | (rw [Y1.out (by first | rfl | trivial)]; go_num), by first | rw [N2.out (by first | rfl | trivial)] | (rw [Y2.out (by first | rfl | trivial)]; go_num), below_drewN HBr.out _⟩
          case measure => simp [intOf]
      · have hl2 := hlt1 (by omega) (by omega)
        have hcp2 := hcp (by omega)
        rw [show j + 1 - 1 = j by omega] at hcp2
        have hge : (!(Op.bytesLess P.toList X.toList)) = false := by rw [Go.Proofs.bytesLess_eq, decide_eq_true hl2]; rfl
        have hge2 : Op.bytesLess P.toList X.toList = true := by rw [Go.Proofs.bytesLess_eq, decide_eq_true hl2]
        have j0 : (0 : Int) ≤ j := by omega
        have j1 : (j : Int) < 117 := by omega
        have j2 : (0 : Int) < (j : Int) + 1 := by omega
        have j3 : IntKind.i64.wrap ((j : Int) + 1 - 1) = j := by rw [show (j : Int) + 1 - 1 = j by omega]; exact IntWalk.i64_in _ (by omega)
        have j4 : (0 : Int) ≤ (j : Int) + 1 := by omega
        have j5 : (j : Int) + 1 < 117 := by omega
        have j6 : ((j : Int) + 1).toNat = j + 1 := by omega
        clear hcp hlt1 hl2
        cases z1 <;> cases z2
        all_goals
          go_wp2
          go_quiet (fail)
          go_wp2
          go_roundw
          case rel => exact ⟨j + 1 + 1, by omega, by go_num, by first | rw [N1.out (by first | rfl | trivial)] | (rw [Y1.out (by first | rfl | trivial)]; go_num), by first | rw [N2.out (by first | rfl | trivial)] | (rw [Y2.out (by first | rfl | trivial)]; go_num), below_drewN HBr.out _⟩
          case measure => simp [intOf]; omega
    · obtain rfl : k = 117 := by omega
      have HB3 := Lib.hid (HB2.out.trans (hB.mono HB2.out.size))
      have h1 := H1.out
      have h2 := H2.out
      rw [hlU] at h1 h2
      rw [h1, show ((1 : Nat) : Int) = 1 from rfl, show ((117 : Nat) : Int) = 117 from rfl]
      obtain ⟨c2, hc2⟩ : ∃ c, cntU s.toList 117 = c := ⟨_, rfl⟩
      rw [hc2] at h2 ⊢
      have hc21 : c2 ≤ 1 := by omega
      clear h1 hc2 hB
      have HH2 := Lib.hid h2
      clear h2
      go_wp2_with fail
      generalize wr = wM at *
      go_loopw [9, 11] (fun q i wr2 => ∃ k : Nat, k ≤ 256 ∧ i = .int .i64 k ∧ q = .bool (anyK s.toList k) ∧ Below wM.heap.size wM wr2) (fun _ i _ => 256 - (intOf i).toNat)
      case atStart => exact ⟨0, by omega, rfl, rfl, Below.refl _ _⟩
      case round =>
        obtain ⟨k, hk, rfl, rfl, hB⟩ := hrel
        by_cases hlt : k < 256
        · have hOf := fun W => rof_any k hlt W
          unfold rV at hOf
          have es := anyK_succ s.toList k
          obtain ⟨X, hX⟩ : ∃ X, mkS (opN k) = X := ⟨_, rfl⟩
          have hXl : opN k = X.toList := by rw [← hX, mkS_toList]
          rw [hX] at hOf
          rw [hXl] at es
          obtain ⟨q, hq⟩ : ∃ q, anyK s.toList k = q := ⟨_, rfl⟩
          obtain ⟨kk, hkk⟩ : ∃ q, opK k = q := ⟨_, rfl⟩
          obtain ⟨zz, hzz⟩ : ∃ q, (X.toList == s.toList) = q := ⟨_, rfl⟩
          rw [hq, hkk, hzz] at es
          rw [hkk] at hOf
          rw [hq]
          have ES := Lib.hid es
          have i2 : IntKind.u8.wrap (k : Int) = k := IntWalk.u8_in _ (by omega)
          have k1 : (k : Int) < 256 := by omega
          have HBi := Lib.hid hB
          clear es hX hXl hq hkk hB
          go_wp2_with fail
          refine (hOf _).mono ?_
          rintro e w4 ⟨rfl, b4⟩
          have HB4 := Lib.hid (HBi.out.trans (b4.mono HBi.out.size))
          clear b4 hOf
          cases q <;> cases kk <;> cases zz
          all_goals
            go_wp2_with fail
            go_roundw
            case rel => exact ⟨k + 1, by omega, by go_num, by rw [ES.out]; rfl, HB4.out.alloc HB4.out.size _⟩
            case measure => simp [intOf]; omega
        · obtain rfl : k = 256 := by omega
          have HB5 := Lib.hid (HB3.out.trans (hB.mono HB3.out.size))
          clear hB
          rw [show ((256 : Nat) : Int) = 256 from rfl]
          rcases HH2.out with ⟨rfl, hq⟩ | ⟨rfl, hq⟩
          all_goals
            rw [hq]
            clear hq
            go_wp2_with fail
            go_ret
            exact ⟨rfl, HB5.out⟩

theorem own : ownKnob Tryd.prog.godebug = none := by kernel_rfl
theorem laidOut : laidOutB Tryd.prog = true := by kernel_rfl
set_option maxRecDepth 100000 in
theorem lifted (os : Os) (started : os.Started) (H : Type) (enc : TypeId × Value → H) :
    ReturnsInHanded {} Tryd.checked os 5 .any (fun w args => (Rows.opcodeNamesSpec.pre enc Tryd.prog Tryd.f5 [] false w args ∧ laidMetH Tryd.prog laid2 w) ∧ sizedMet enc Tryd.prog Tryd.f5 (OpenSpec.ofChange Rows.opcodeNamesSpec) false w args)
      (Rows.opcodeNamesSpec.post enc Tryd.prog Tryd.f5 false true false false) := by
  refine returnsInHanded_of_change_and (C := Tryd.checked) (X := fun w _ => laidMetH Tryd.prog laid2 w) (fun _ _ _ hh h => h.of_heap hh) own started (by kernel_rfl) Tryd.func5
    (ChangeSpec.witness_shaped (enc := enc) (C := Tryd.checked) (os := os) (X := fun w _ => laidMetH Tryd.prog laid2 w) false (World.laidAll Tryd.prog os laid2) #[.int .u8 0, .string ⟨#[]⟩] 8 (World.laidAll_os _ _ _) (World.shaped_of_ZipB (by kernel_rfl) (by kernel_rfl)) (by kernel_rfl) (by kernel_rfl) (by kernel_rfl) (by rw [MakeChecks.laidMetH_plain _ _ _ (by kernel_rfl)]; exact laidMet_laidAll _ (by kernel_rfl) (by kernel_rfl))) ?_
  intro W base args ds gs before hval0 hW _ _ hL0 _
  have hL : laidMetH Tryd.prog laid2 W := hL0
  rw [MakeChecks.laidMetH_plain _ _ _ (by kernel_rfl)] at hL
  have HT := of_laid hL
  have hval : ∀ (j : Nat) t v, Tryd.f5.params[j]? = some t → args[j]? = some v → Value.okWide Tryd.prog W .any base t v := hval0
  have hW' := hW
  obtain ⟨p, q, hA0, hV, rfl, _, _⟩ := hW
  have hA : DataW.TrodAll enc Tryd.prog W 0 (fun _ => true) true Tryd.f5.params.toList args.toList ds p := hA0
  rw [Tryd.params5] at hA hval
  obtain ⟨v0, vs0, d0, ds0, p0, q0, hargs, rfl, rfl, h0, r0⟩ := trodAll_cons hA
  obtain ⟨v1, vs1, d1, ds1, p1, q1, rfl, rfl, rfl, h1, r1⟩ := trodAll_cons r0
  obtain ⟨rfl, rfl, rfl⟩ := trodAll_nil r1
  obtain rfl : args = #[v0, v1] := by cases args; simp_all
  obtain ⟨rfl, rfl⟩ := trodVars_none hV
  obtain ⟨a0, rfl, rfl, rfl, w0⟩ := open_int Tryd.underlying5 (hval 0 5 v0 rfl rfl) h0
  obtain ⟨a1, rfl, rfl, rfl, w1⟩ := open_string Tryd.underlying9 (hval 1 9 v1 rfl rfl) h1
  clear hA0 hval0
  refine (walk a0 w0 a1 w1 W HT).mono fun e W' ⟨he, hg⟩ => ?_
  subst he
  exact ⟨_, rfl, law_post rfl Tryd.underlying4 laidOut (by kernel_rfl) rfl hW' rfl hg⟩

theorem over : Rows.opcodeNamesRow.holds Tryd.pinned (OpenSpec.ofChange Rows.opcodeNamesSpec) :=
  OpenClaim.holds_of_wide 5 Tryd.f5 rfl rfl rfl rfl rfl rfl rfl ⟨rfl, rfl, rfl, rfl, rfl⟩ rfl rfl rfl rfl rfl (by kernel_rfl) Tryd.func5 (by kernel_rfl)
    (of_decide_eq_true (by kernel_rfl)) (by unfold Func.isWrapper; first | (rw [if_pos (by decide +kernel)]; kernel_rfl) | (rw [if_neg (by decide +kernel)]; exact ⟨rfl, rfl⟩))
    (fun os started H enc _ => lifted os started H enc)

theorem proved : Rows.OpcodeNamesCardSaid :=
  Claim7.holds_tied_plain_at .later [] [.data, .pinned] true _ false
    over (fun _ h => by cases h) (by kernel_rfl) (fun _ h => by cases h) opcodeNames_row_tie rfl ⟨rfl, rfl⟩ (by kernel_rfl) rfl
    (fun f fn hf hfn => by
      obtain rfl : f = 5 := Option.some.inj ((show Tryd.prog.funcNamed "gannet/gannetlaw23.OpcodeNames" = some 5 by kernel_rfl).symm.trans hf) |>.symm
      obtain rfl : fn = Tryd.f5 := (Option.some.inj (Tryd.func5.symm.trans hfn)).symm
      exact ⟨by kernel_rfl, fun j t ht => by
        rw [Tryd.params5] at ht
        have hm : t ∈ [5, 9] := by simpa using Array.mem_of_getElem? ht
        have hall : ([5, 9].all fun u => !Tryd.prog.wantsStandIn u) = true := by kernel_rfl
        exact (show Tryd.prog.wantsStandIn t = false by simpa using List.all_eq_true.1 hall t hm)⟩)
    (by kernel_rfl)
#print axioms proved
end Go.Proofs.YtleofglnlfpoeaaDoor.opcodeNames
