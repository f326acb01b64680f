/-
  For every input TopStamped returns true, and each argument reads behind the call as it read before. No conditions.
-/
import Derived.Test.YtlpicadfldbifaaRows
import Derived.Test.YtlpicadfldbifaaG3
import Derived.Test.YtlpicadfldbifaaG5
import Derived.Test.YtlpicadfldbifaaG6
import Derived.Test.YtlpicadfldbifaaG7
import Derived.Test.YtlpicadfldbifaaM4
namespace Go.Proofs.Ytlpicadfldbifaa.topStamped
open Go.ChangeShapes Go.WideShapes Go.ChangeAt Go.RowKit
open Go.ChangeMaps (open_string)

set_option linter.unusedVariables false
theorem heldI_in (s : Int) (h0 : 0 ≤ s) (h1 : s ≤ 1125899906842624) : heldI s = s := by unfold heldI; rw [if_neg (by omega), if_neg (by omega)]
theorem boolsOf_succ (z : Nat → Bool) (k : Nat) : boolsOf z (k + 1) = boolsOf z k ++ boolsOf (fun _ => z k) 1 := by simp [boolsOf, List.range_succ]
set_option maxRecDepth 100000 in
set_option maxHeartbeats 8000000 in
theorem walk (b : Int) (wb : (Lit.int .u8 b).wf = true) (s : Int) (ws : (Lit.int .u32 s).wf = true) (f : Bool) (W : World) :
    Calls Try.prog 13 #[.int .u8 b, .int .u32 s, .bool f] W fun e w' => e = .returned (.bool true) ∧ Below W.heap.size W w' := by
  have bs := bounds_u32 ws
  have bb := bounds_u8 wb
  clear ws wb
  obtain ⟨bn, hbn⟩ := Int.eq_ofNat_of_zero_le bb.1
  have MF : ∀ k : Nat, k < 9 → (firstFrom b 8 < 0 → countTo b k = 0) ∧ (0 ≤ firstFrom b 8 → firstFrom b 8 < k → 1 ≤ countTo b k) := by rw [hbn]; exact m_first bn (by omega)
  have FB : -1 ≤ firstFrom b 8 ∧ firstFrom b 8 ≤ 7 := by rw [hbn]; exact first_bd bn (by omega)
  have MH := Lib.hid MF
  clear MF
  have hb10 : bitB 1 0 = true := by kernel_rfl
  have H1 := Lib.hid (heldI_in s bs.1 (by omega))
  clear hbn
  go_enter Try.func13, Try.ntmps13
  go_wp2_with (go_at_call 17; refine (bit_any _ _ _).mono ?_; rintro e w' ⟨rfl, rfl⟩)
  go_loopw [7, 8] (fun v i wr => ∃ k : Nat, k ≤ 8 ∧ i = .int .i64 k ∧ wr.ownsRow W.heap.size 4 1 v k (boolsOf (fun i => bitB b i) k) ∧ Below W.heap.size W wr) (fun _ i _ => 8 - (intOf i).toNat)
  case atStart => exact ⟨0, by omega, rfl, ⟨rfl, Or.inl ⟨rfl, rfl⟩⟩, Below.refl _ _⟩
  case round =>
    obtain ⟨k, hk, rfl, own, hB⟩ := hrel
    have zB := hB.size
    by_cases hlt : k < 8
    · have Rn : BRow (wr.alloc (.cells #[.bool (bitB b k)] 4)) (some ⟨wr.heap.size, 0, none⟩) 1 (fun _ => bitB b k) := fun i hi => by
        obtain rfl : i = 0 := by omega
        exact ⟨_, rfl, by simp, by rw [add_zero_block, cell_of_row _ _ 0 _ 4 (0, 0) (heap_alloc_new wr _)]; rfl⟩
      obtain ⟨v', w', hrun, own', gb'⟩ := more_bools (P := Try.prog) (t := 59) (ty := 59) (c := 1) Try.underlying59 (by kernel_rfl) (own.alloc (.cells #[.bool (bitB b k)] 4)) Rn (by omega) (by simp; omega)
      rw [← boolsOf_succ (fun i : Nat => bitB b i) k] at own'
      have hB' : Below W.heap.size W w' := (hB.alloc zB _).grown gb' (by simp; omega) (fun j h => (own.lt j h).1)
      clear Rn
      go_wp2_with (first | (go_at_call 17; refine (bit_any _ _ _).mono ?_; rintro e w' ⟨rfl, rfl⟩) | (at_builtin; refine wpList_append_run rfl (.tmp 21) (.tmp 25) 59 rfl rfl rfl hrun ?_))
      go_roundw
      case rel => exact ⟨k + 1, by omega, by go_num, own', hB'⟩
      case measure => simp [intOf]; omega
    · obtain rfl : k = 8 := by omega
      obtain ⟨A, c, rfl, R⟩ : ∃ A c, u7 = .slice A 8 c ∧ BRow wr A 8 (fun i => bitB b i) := by
        rcases own.2 with ⟨_, h0⟩ | ⟨g, cap, cur, rfl, _⟩
        · exact absurd h0 (by decide)
        · exact ⟨_, _, rfl, fun i hi => ⟨_, rfl, (own.lt g rfl).2, own.cells rfl i _ (boolsOf_at _ 8 i hi)⟩⟩
      clear own
      go_wp2_with fail
      refine (stamps_any s f R (by omega)).mono ?_
      rw [H1.out]
      rintro e w1 ⟨o, rfl, ho, I, q1⟩
      have hB1 := hB.trans (q1.mono zB)
      have z1 := hB1.size
      obtain ⟨L, hL, h312⟩ : ∃ L, lenI f false = L ∧ (L = 3 ∨ L = 12) := ⟨_, rfl, by cases f <;> simp [lenI]⟩
      have SC0 := stamp_count s b f
      rw [hL] at SC0
      have ST : ∃ st : Nat → Int, stampAt s f (fun i => bitB b i) = st := ⟨_, rfl⟩
      obtain ⟨st, hst⟩ := ST
      rw [hst] at SC0 I
      rw [hst]
      have SC := Lib.hid SC0
      have CB := Lib.hid (countTo_bd b)
      clear hst hb10 SC0
      have HL := Lib.hid hL
      clear hL
      rcases h312 with rfl | rfl
      all_goals
        have e8 := SC.out 8
        have cb8 := CB.out 8
        go_wp2_with fail
        refine (asVal (length_any f false _) (congrArg (Value.int .i64) HL.out)).mono ?_
        rintro e w2 ⟨rfl, q2⟩
        have I2 := I.keep q2
        have hB2 := hB1.trans (q2.mono z1)
        clear I R
        generalize hF : firstFrom b 8 = F at *
        have HF := Lib.hid hF
        clear hF
        go_wp2_with (first | (go_at_call 28; refine (count_any _ _).mono ?_; rintro e w' ⟨rfl, rfl⟩) | (go_at_call 29; refine (asVal (first_any _ _) (congrArg (Value.int .i64) HF.out)).mono ?_; rintro e w' ⟨rfl, rfl⟩))
        clear e8
        go_loop [13] (fun i => ∃ k : Nat, k ≤ 8 ∧ i = .int .i64 k) (fun i => 8 - (intOf i).toNat)
        case atStart => exact ⟨0, by omega, rfl⟩
        case round =>
          obtain ⟨k, hk8, rfl⟩ := hrel
          by_cases hlt2 : k < 8
          · obtain ⟨a1, h1, _, x1, _⟩ := I2 k hlt2
            obtain rfl : ⟨o, 0, none⟩ = a1 := by injection h1
            rw [add_zero_block] at x1
            have mk := MH.out k (by omega)
            have cb := CB.out k
            rw [SC.out k] at x1
            clear h1 cb8
            generalize countTo b k = C at *
            by_cases f0 : F < 0
            · obtain rfl : C = 0 := mk.1 f0
              clear mk
              go_wp2_with fail
              go_round
              case rel => exact ⟨k + 1, by omega, by go_num⟩
              case measure => simp [intOf]; omega
            · by_cases f1 : F < k
              · have c1 := mk.2 (by omega) f1
                clear mk
                go_wp2_with fail
                go_round
                case rel => exact ⟨k + 1, by omega, by go_num⟩
                case measure => simp [intOf]; omega
              · clear mk
                go_wp2_with fail
                go_round
                case rel => exact ⟨k + 1, by omega, by go_num⟩
                case measure => simp [intOf]; omega
          · obtain rfl : k = 8 := by omega
            go_wp2_with fail
            go_ret
            exact ⟨rfl, hB2⟩

theorem own : ownKnob Try.prog.godebug = none := by kernel_rfl
theorem laidOut : laidOutB Try.prog = true := by kernel_rfl
set_option maxRecDepth 100000 in
theorem lifted (os : Os) (started : os.Started) (H : Type) (enc : TypeId × Value → H) :
    ReturnsInHanded {} Try.checked os 13 .any (Rows.topStampedSpec.pre6 enc Try.prog Try.f13 Rows.topStampedRow.domain false) (Rows.topStampedSpec.post enc Try.prog Try.f13 false true false false) := by
  refine returnsInHanded_of_change (C := Try.checked) own started (by kernel_rfl) Try.func13
    (ChangeSpec.witness6 (enc := enc) (C := Try.checked) false ⟨#[], #[.int .u8 0, .int .u32 0, .bool false], []⟩ 8 (by kernel_rfl) (by kernel_rfl) (by kernel_rfl) (by kernel_rfl)) ?_
  intro W base args ds gs before hval0 hW _ _
  have hval : ∀ (j : Nat) t v, Try.f13.params[j]? = some t → args[j]? = some v → Value.okWide Try.prog W .any base t v := hval0
  have hW' := hW
  obtain ⟨p, q, hA0, hV, rfl, _, _⟩ := hW
  have hA : DataW.TrodAll enc Try.prog W 0 (fun _ => true) true Try.f13.params.toList args.toList ds p := hA0
  rw [Try.params13] at hA hval
  obtain ⟨v0, vs0, d0, ds0, p0, q0, hargs, rfl, rfl, h0, r0⟩ := trodAll_cons hA
  obtain ⟨v1, vs1, d1, ds1, p1, q1, rfl, rfl, rfl, h1, r1⟩ := trodAll_cons r0
  obtain ⟨v2, vs2, d2, ds2, p2, q2, rfl, rfl, rfl, h2, r2⟩ := trodAll_cons r1
  obtain ⟨rfl, rfl, rfl⟩ := trodAll_nil r2
  obtain rfl : args = #[v0, v1, v2] := by cases args; simp_all
  obtain ⟨rfl, rfl⟩ := trodVars_none hV
  obtain ⟨a0, rfl, rfl, rfl, w0⟩ := open_int Try.underlying5 (hval 0 5 v0 rfl rfl) h0
  obtain ⟨a1, rfl, rfl, rfl, w1⟩ := open_int Try.underlying41 (hval 1 41 v1 rfl rfl) h1
  obtain ⟨a2, rfl, rfl, rfl⟩ := open_bool Try.underlying4 (hval 2 4 v2 rfl rfl) h2
  clear hA0 hval0
  refine (walk a0 w0 a1 w1 a2 W).mono fun e W' ⟨he, hg⟩ => ?_
  subst he
  exact ⟨_, rfl, law_post rfl Try.underlying4 laidOut (by kernel_rfl) rfl hW' rfl hg⟩

theorem over : Rows.topStampedRow.holds Try.pinned (OpenSpec.ofChange Rows.topStampedSpec) :=
  OpenClaim.holds_of_wide 13 Try.f13 rfl rfl rfl rfl rfl rfl rfl ⟨rfl, rfl, rfl, rfl, rfl⟩ rfl rfl rfl rfl rfl (by kernel_rfl) Try.func13 (by kernel_rfl)
    (of_decide_eq_true (by kernel_rfl)) (by unfold Func.isWrapper; first | (rw [if_pos (by decide +kernel)]; kernel_rfl) | (rw [if_neg (by decide +kernel)]; exact ⟨rfl, rfl⟩))
    (fun os started H enc _ => lifted os started H enc)

theorem proved : Rows.TopStampedSaid := over
#print axioms proved
end Go.Proofs.Ytlpicadfldbifaa.topStamped
