/-
  For every input OpcodeBack returns true, and each argument reads behind the call as it read before. The one condition: when the call begins the package-level variables that the row lists hold what the program lays in them (TIED: the card shows it of the text of the project, pruned to the packages that this seat loads).
-/
import Derived.Test.YtleofglnlfpoeaaDoorRows
import Derived.Test.YtleofglnlfpoeaaDoorG3
import Derived.SevenTiedAt
import Derived.ProofKit
import Derived.LaidMore
import Derived.OpenShut
import Derived.Stop.Joined
import Derived.Test.YtleofglnlfpoeaaDoorCards
import Derived.Test.YtleofglnlfpoeaaDoorTie
import Derived.Test.YtleofglnlfpoeaaDoorOpc11
import Derived.Test.YtleofglnlfpoeaaDoorLaid12
namespace Go.Proofs.YtleofglnlfpoeaaDoor.opcodeBack
open Go.ChangeShapes Go.WideShapes Go.ChangeAt Go.RowKit
open Go.ChangeMaps (open_string)

set_option linter.unusedVariables false
set_option linter.unusedSimpArgs false
set_option maxRecDepth 100000 in
set_option maxHeartbeats 8000000 in
theorem walk (b : Int) (wb : (Lit.int .u8 b).wf = true) (W : World) (hT : Tabs W) :
    Calls Tryd.prog 7 #[.int .u8 b] W fun e w' => e = .returned (.bool true) ∧ Below W.heap.size W w' := by
  obtain ⟨b0, b1⟩ := bounds_u8 wb
  obtain ⟨n, rfl⟩ : ∃ n : Nat, b = n := ⟨b.toNat, by omega⟩
  have hn : n < 256 := by omega
  have hO := fun W => oof_any n hn W
  have hK := fun W => oknown_any n hn W
  have hF := fun W => ofind_any (mkS (opN n)) (opM n : Int) W
  rw [mkS_toList] at hF
  have hfin := back_fin n hn
  unfold opV at hO
  generalize mkS (opN n) = S at hO hF
  generalize findF (opN n) (opM n : Int) (knL 256) = fo at hF hfin
  generalize (opM n : Int) = m at hO hF
  generalize (opY n : Int) = y at hO
  obtain ⟨z, hz⟩ : ∃ z, opZ n = z := ⟨_, rfl⟩
  rw [hz] at hO hfin
  generalize opK n = k at hK hfin
  clear wb hT hz
  go_enter Tryd.func7, Tryd.ntmps7
  go_wp2_with fail
  refine (live23).mono ?_
  rintro e w0 ⟨rfl, b0⟩
  have HB0 := Lib.hid b0
  clear b0
  go_wp2_with fail
  refine (hO _).mono ?_
  rintro e w1 ⟨rfl, b1⟩
  have HB1 := Lib.hid (HB0.out.trans (b1.mono HB0.out.size))
  clear b1
  go_wp2_with fail
  have hX1 := Blk.new w1 24 #[.string S, .int .u8 m, .int .i64 z, .int .i64 y]
  have hB2 : Below W.heap.size W (w1.alloc (.cells #[.string S, .int .u8 m, .int .i64 z, .int .i64 y] 24)) := HB1.out.alloc HB1.out.size _
  obtain ⟨g, hg⟩ : ∃ g, w1.heap.size = g := ⟨_, rfl⟩
  rw [hg] at hX1
  simp only [hg]
  generalize World.alloc _ _ = w2 at *
  refine (hF _).mono ?_
  rintro e w3 ⟨rfl, b3⟩
  have hX3 := hX1.below b3 hX1.lt
  have HB3 := Lib.hid (hB2.trans (b3.mono hB2.size))
  have HG := Lib.hid hX3
  clear b3 hX1 hB2 hX3 hF hO HB0 HB1 hg
  obtain ⟨c, ok, hco⟩ : ∃ (c : Int) (ok : Bool), fndV fo = .tuple #[.int .u8 c, .bool ok] := by cases fo with | none => exact ⟨_, _, rfl⟩ | some x => exact ⟨_, _, rfl⟩
  rw [hco]
  have HCO := Lib.hid hco
  clear hco
  go_wp2_with fail
  go_loopw [6, 7] (fun q i wr => ∃ k : Nat, k ≤ 256 ∧ i = .int .i64 k ∧ q = .int .i64 (cntK k : Int) ∧ w3 = wr) (fun _ i _ => 256 - (intOf i).toNat)
  case atStart => exact ⟨0, by omega, rfl, rfl, rfl⟩
  case round =>
    obtain ⟨j, hj, rfl, rfl, rfl⟩ := hrel
    have hle := cnt_le j
    by_cases hlt : j < 256
    · have hKj := oknown_any j hlt w3
      have i0 : (j : Int) < 256 := by omega
      have i2 : IntKind.u8.wrap (j : Int) = j := IntWalk.u8_in _ (by omega)
      have ey := Lib.hid (cnt_yes j)
      have en := Lib.hid (cnt_no j)
      obtain ⟨x, hx⟩ : ∃ x, opK j = x := ⟨_, rfl⟩
      rw [hx] at hKj ey en
      obtain ⟨q, hq⟩ : ∃ q, cntK j = q := ⟨_, rfl⟩
      rw [hq] at ey en hle ⊢
      clear hx hq
      cases x with
      | true =>
        go_wp2_with fail
        refine hKj.mono ?_
        rintro e w' ⟨rfl, rfl⟩
        go_wp2_with fail
        go_roundw
        case rel => exact ⟨j + 1, by omega, by go_num, by rw [show cntK (j + 1) = q + 1 from by first | exact ey.out rfl | exact ey.out trivial]; go_num, by trivial⟩
        case measure => simp [intOf]; omega
      | false =>
        go_wp2_with fail
        refine hKj.mono ?_
        rintro e w' ⟨rfl, rfl⟩
        go_wp2_with fail
        go_roundw
        case rel => exact ⟨j + 1, by omega, by go_num, by rw [show cntK (j + 1) = q from by first | exact en.out rfl | exact en.out trivial], by trivial⟩
        case measure => simp [intOf]; omega
    · obtain rfl : j = 256 := by omega
      rw [cnt_all]
      have d2 : w3.cell? ⟨g, 2, none⟩ = some (.int .i64 z) := HG.out.cell 2
      cases k with
      | true =>
        have e1 := hfin.1 rfl
        subst e1
        have h1 := HCO.out
        simp only [fndV, Value.tuple.injEq] at h1
        obtain ⟨rfl, rfl⟩ : (n : Int) = c ∧ true = ok := by simpa using h1
        clear hfin HCO h1
        have nn : ((n : Int) == n) = true := beq_self_eq_true _
        go_wp2_with fail
        refine (hK _).mono ?_
        rintro e w' ⟨rfl, rfl⟩
        go_wp2_with fail
        go_ret
        exact ⟨rfl, HB3.out⟩
      | false =>
        obtain ⟨e1, rfl⟩ := hfin.2 rfl
        subst e1
        have h1 := HCO.out
        simp only [fndV, Value.tuple.injEq] at h1
        obtain ⟨rfl, rfl⟩ : (234 : Int) = c ∧ true = ok := by simpa using h1
        clear hfin HCO h1
        go_wp2_with fail
        refine (hK _).mono ?_
        rintro e w' ⟨rfl, rfl⟩
        go_wp2_with fail
        go_ret
        exact ⟨rfl, HB3.out⟩

theorem own : ownKnob Tryd.prog.godebug = none := by kernel_rfl
theorem laidOut : laidOutB Tryd.prog = true := by kernel_rfl
set_option maxRecDepth 100000 in
theorem lifted (os : Os) (started : os.Started) (H : Type) (enc : TypeId × Value → H) :
    ReturnsInHanded {} Tryd.checked os 7 .any (fun w args => (Rows.opcodeBackSpec.pre enc Tryd.prog Tryd.f7 [] false w args ∧ laidMetH Tryd.prog laid2 w) ∧ sizedMet enc Tryd.prog Tryd.f7 (OpenSpec.ofChange Rows.opcodeBackSpec) false w args)
      (Rows.opcodeBackSpec.post enc Tryd.prog Tryd.f7 false true false false) := by
  refine returnsInHanded_of_change_and (C := Tryd.checked) (X := fun w _ => laidMetH Tryd.prog laid2 w) (fun _ _ _ hh h => h.of_heap hh) own started (by kernel_rfl) Tryd.func7
    (ChangeSpec.witness_shaped (enc := enc) (C := Tryd.checked) (os := os) (X := fun w _ => laidMetH Tryd.prog laid2 w) false (World.laidAll Tryd.prog os laid2) #[.int .u8 0] 8 (World.laidAll_os _ _ _) (World.shaped_of_ZipB (by kernel_rfl) (by kernel_rfl)) (by kernel_rfl) (by kernel_rfl) (by kernel_rfl) (by rw [MakeChecks.laidMetH_plain _ _ _ (by kernel_rfl)]; exact laidMet_laidAll _ (by kernel_rfl) (by kernel_rfl))) ?_
  intro W base args ds gs before hval0 hW _ _ hL0 _
  have hL : laidMetH Tryd.prog laid2 W := hL0
  rw [MakeChecks.laidMetH_plain _ _ _ (by kernel_rfl)] at hL
  have HT := of_laid hL
  have hval : ∀ (j : Nat) t v, Tryd.f7.params[j]? = some t → args[j]? = some v → Value.okWide Tryd.prog W .any base t v := hval0
  have hW' := hW
  obtain ⟨p, q, hA0, hV, rfl, _, _⟩ := hW
  have hA : DataW.TrodAll enc Tryd.prog W 0 (fun _ => true) true Tryd.f7.params.toList args.toList ds p := hA0
  rw [Tryd.params7] at hA hval
  obtain ⟨v0, vs0, d0, ds0, p0, q0, hargs, rfl, rfl, h0, r0⟩ := trodAll_cons hA
  obtain ⟨rfl, rfl, rfl⟩ := trodAll_nil r0
  obtain rfl : args = #[v0] := by cases args; simp_all
  obtain ⟨rfl, rfl⟩ := trodVars_none hV
  obtain ⟨a0, rfl, rfl, rfl, w0⟩ := open_int Tryd.underlying5 (hval 0 5 v0 rfl rfl) h0
  clear hA0 hval0
  refine (walk a0 w0 W HT).mono fun e W' ⟨he, hg⟩ => ?_
  subst he
  exact ⟨_, rfl, law_post rfl Tryd.underlying4 laidOut (by kernel_rfl) rfl hW' rfl hg⟩

theorem over : Rows.opcodeBackRow.holds Tryd.pinned (OpenSpec.ofChange Rows.opcodeBackSpec) :=
  OpenClaim.holds_of_wide 7 Tryd.f7 rfl rfl rfl rfl rfl rfl rfl ⟨rfl, rfl, rfl, rfl, rfl⟩ rfl rfl rfl rfl rfl (by kernel_rfl) Tryd.func7 (by kernel_rfl)
    (of_decide_eq_true (by kernel_rfl)) (by unfold Func.isWrapper; first | (rw [if_pos (by decide +kernel)]; kernel_rfl) | (rw [if_neg (by decide +kernel)]; exact ⟨rfl, rfl⟩))
    (fun os started H enc _ => lifted os started H enc)

theorem proved : Rows.OpcodeBackCardSaid :=
  Claim7.holds_tied_plain_at .later [] [.data, .pinned] true _ false
    over (fun _ h => by cases h) (by kernel_rfl) (fun _ h => by cases h) opcodeBack_row_tie rfl ⟨rfl, rfl⟩ (by kernel_rfl) rfl
    (fun f fn hf hfn => by
      obtain rfl : f = 7 := Option.some.inj ((show Tryd.prog.funcNamed "gannet/gannetlaw23.OpcodeBack" = some 7 by kernel_rfl).symm.trans hf) |>.symm
      obtain rfl : fn = Tryd.f7 := (Option.some.inj (Tryd.func7.symm.trans hfn)).symm
      exact ⟨by kernel_rfl, fun j t ht => by
        rw [Tryd.params7] at ht
        have hm : t ∈ [5] := by simpa using Array.mem_of_getElem? ht
        have hall : ([5].all fun u => !Tryd.prog.wantsStandIn u) = true := by kernel_rfl
        exact (show Tryd.prog.wantsStandIn t = false by simpa using List.all_eq_true.1 hall t hm)⟩)
    (by kernel_rfl)
#print axioms proved
end Go.Proofs.YtleofglnlfpoeaaDoor.opcodeBack
