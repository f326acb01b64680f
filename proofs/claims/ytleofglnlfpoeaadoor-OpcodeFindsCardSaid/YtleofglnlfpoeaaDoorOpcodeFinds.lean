/-
  For every input OpcodeFinds returns true, and each argument reads behind the call as it read before. The one condition: when the call begins the package-level variables that the row lists hold what the program lays in them (TIED: the card shows it of the text of the project, pruned to the packages that this seat loads).
-/
import Derived.Test.YtleofglnlfpoeaaDoorRows
import Derived.Test.YtleofglnlfpoeaaDoorG3
import Derived.SevenTiedAt
import Derived.ProofKit
import Derived.LaidMore
import Derived.OpenShut
import Derived.Stop.Joined
import Derived.Test.YtleofglnlfpoeaaDoorCards
import Derived.Test.YtleofglnlfpoeaaDoorTie
import Derived.Test.YtleofglnlfpoeaaDoorOpc10
import Derived.Test.YtleofglnlfpoeaaDoorOpc13
import Derived.Test.YtleofglnlfpoeaaDoorRop7
import Derived.Test.YtleofglnlfpoeaaDoorSam1
import Derived.Test.YtleofglnlfpoeaaDoorG18
import Derived.Test.YtleofglnlfpoeaaDoorG9
import Derived.Test.YtleofglnlfpoeaaDoorG28
import Derived.Test.YtleofglnlfpoeaaDoorLaid12
namespace Go.Proofs.YtleofglnlfpoeaaDoor.opcodeFinds
open Go.ChangeShapes Go.WideShapes Go.ChangeAt Go.RowKit
open Go.ChangeMaps (open_string)

set_option linter.unusedVariables false
set_option linter.unusedSimpArgs false
set_option maxRecDepth 100000 in
set_option maxHeartbeats 8000000 in
theorem walk (s : ByteArray) (ws : s.size ≤ maxLen) (b : Int) (wb : (Lit.int .u8 b).wf = true) (W : World) (hT : Tabs W) :
    Calls Tryd.prog 4 #[.string s, .int .u8 b] W fun e w' => e = .returned (.bool true) ∧ Below W.heap.size W w' := by
  obtain ⟨b0, b1⟩ := bounds_u8 wb
  have hFd := fun W => ofind_any s b W
  have hMd := fun W => omodes_any s W
  have h1 := find_one s.toList b
  have H1 := Lib.hid h1
  have infE : (Tryd.prog.info? 5).map (fun i => (i.zero, i.size, i.bytes)) = some (some (.int .u8 0), 1, 1) := by kernel_rfl
  clear wb hT h1
  go_enter Tryd.func4, Tryd.ntmps4
  go_wp2_with fail
  refine (live23).mono ?_
  rintro e w0 ⟨rfl, b0⟩
  have HB0 := Lib.hid b0
  clear b0
  go_wp2_with fail
  refine (hFd _).mono ?_
  rintro e w1 ⟨rfl, b1⟩
  have HB1 := Lib.hid (HB0.out.trans (b1.mono HB0.out.size))
  clear b1 hFd
  obtain ⟨c, ok, hco⟩ : ∃ (c : Int) (ok : Bool), fndV (findF s.toList b (knL 256)) = .tuple #[.int .u8 c, .bool ok] := by cases findF s.toList b (knL 256) with | none => exact ⟨_, _, rfl⟩ | some x => exact ⟨_, _, rfl⟩
  rw [hco]
  have HCO := Lib.hid hco
  clear hco
  go_wp2_with fail
  obtain ⟨g, hg⟩ : ∃ g, w1.heap.size = g := ⟨_, rfl⟩
  have hX1 : Blk (w1.alloc (.cells #[.bool false, .bool false, .bool false, .bool false, .bool false, .bool false, .bool false, .bool false, .bool false, .bool false, .bool false, .bool false, .bool false, .bool false, .bool false, .bool false, .bool false, .bool false, .bool false, .bool false] 32)) g 32 (tArr 20 (hF s.toList 0)) := by rw [← hg]; exact Blk.new_ rfl
  have hB2 : Below W.heap.size W (w1.alloc (.cells #[.bool false, .bool false, .bool false, .bool false, .bool false, .bool false, .bool false, .bool false, .bool false, .bool false, .bool false, .bool false, .bool false, .bool false, .bool false, .bool false, .bool false, .bool false, .bool false, .bool false] 32)) := HB1.out.alloc HB1.out.size _
  have hgW : W.heap.size ≤ g := by rw [← hg]; exact HB1.out.size
  simp only [hg]
  clear hg
  generalize World.alloc _ _ = w2 at *
  go_loopw [7, 8, 10] (fun p q i wr => ∃ j : Nat, j ≤ 256 ∧ i = .int .i64 (255 - (j : Int)) ∧ p = .int .i64 (nF s.toList b j : Int) ∧ q = .int .i64 (fF s.toList b j : Int) ∧ Blk wr g 32 (tArr 20 (hF s.toList j)) ∧ Below W.heap.size W wr) (fun _ _ i _ => (intOf i + 1).toNat)
  case atStart => exact ⟨0, by omega, rfl, rfl, rfl, hX1, hB2⟩
  case round =>
    obtain ⟨j, hj, rfl, rfl, rfl, hX', hB⟩ := hrel
    have hle := nF_le s.toList b j
    by_cases hlt : j < 256
    · obtain ⟨k, hk⟩ : ∃ k : Nat, k = 255 - j := ⟨_, rfl⟩
      have hki : (255 : Int) - (j : Int) = k := by omega
      have hOf := fun W => rof_any k (by omega) W
      unfold rV at hOf
      have ny := nF_yes s.toList b j
      have nn := nF_no s.toList b j
      have hy := hF_yes s.toList j
      have hn := hF_no s.toList j
      rw [← hk] at ny nn hy hn
      unfold ftK at ny nn
      unfold nmK at ny nn hy hn
      have hm20 : opM k < 20 := opM_fin ⟨k, by omega⟩
      obtain ⟨X, hX⟩ : ∃ X, mkS (opN k) = X := ⟨_, rfl⟩
      have hXl : opN k = X.toList := by rw [← hX, mkS_toList]
      rw [hX] at hOf
      rw [hXl] at ny nn hy hn
      obtain ⟨kk, hkk⟩ : ∃ q, opK k = q := ⟨_, rfl⟩
      obtain ⟨zz, hzz⟩ : ∃ q, (X.toList == s.toList) = q := ⟨_, rfl⟩
      obtain ⟨m, hm⟩ : ∃ m, opM k = m := ⟨_, rfl⟩
      obtain ⟨mm, hmm⟩ : ∃ q, ((m : Int) == b) = q := ⟨_, rfl⟩
      rw [hm] at ny nn hy hOf hm20
      rw [hkk, hzz, hmm] at ny nn
      rw [hkk, hzz] at hy hn
      rw [hkk] at hOf
      rw [hki]
      obtain ⟨N0, hN0⟩ : ∃ q, nF s.toList b j = q := ⟨_, rfl⟩
      obtain ⟨F0, hF0⟩ : ∃ q, fF s.toList b j = q := ⟨_, rfl⟩
      rw [hN0] at ny nn hle ⊢
      rw [hF0] at nn ⊢
      have NY := Lib.hid ny
      have NN := Lib.hid nn
      have HY := Lib.hid hy
      have HN := Lib.hid hn
      have i1 : (0 : Int) ≤ k := by omega
      have i2 : IntKind.u8.wrap (k : Int) = k := IntWalk.u8_in _ (by omega)
      have i3 : IntKind.i64.wrap ((k : Int) - 1) = k - 1 := IntWalk.i64_in _ (by omega)
      have i4 : IntKind.i64.wrap ((N0 : Int) + 1) = N0 + 1 := IntWalk.i64_in _ (by omega)
      have m0 : (0 : Int) ≤ m := by omega
      have m1 : (m : Int) < 20 := by omega
      have HXX := Lib.hid hX'
      have HBB := Lib.hid hB
      have HJK := Lib.hid hk
      clear ny nn hy hn hX hXl hkk hm hN0 hF0 hki hX' hB hk
      go_wp2_with fail
      refine (hOf _).mono ?_
      rintro e w4 ⟨rfl, b4⟩
      have HX4 := Lib.hid (HXX.out.below b4 HXX.out.lt)
      have HB4 := Lib.hid (HBB.out.trans (b4.mono HBB.out.size))
      clear b4 hOf
      cases kk <;> cases zz <;> cases mm
      · go_wp2_with fail
        go_roundw
        case rel => exact ⟨j + 1, by omega, by have := HJK.out; first | (congr 1; omega) | (congr 1) | (subst this; rfl), by rw [(NN.out rfl).1], by rw [(NN.out rfl).2], by rw [tArr_congr fun i _ => HN.out rfl i]; exact HX4.out.alloc _, HB4.out.alloc HB4.out.size _⟩
        case measure => (simp [intOf] <;> omega)
      · go_wp2_with fail
        go_roundw
        case rel => exact ⟨j + 1, by omega, by have := HJK.out; first | (congr 1; omega) | (congr 1) | (subst this; rfl), by rw [(NN.out rfl).1], by rw [(NN.out rfl).2], by rw [tArr_congr fun i _ => HN.out rfl i]; exact HX4.out.alloc _, HB4.out.alloc HB4.out.size _⟩
        case measure => (simp [intOf] <;> omega)
      · go_wp2_with fail
        go_roundw
        case rel => exact ⟨j + 1, by omega, by have := HJK.out; first | (congr 1; omega) | (congr 1) | (subst this; rfl), by rw [(NN.out rfl).1], by rw [(NN.out rfl).2], by rw [tArr_congr fun i _ => HN.out rfl i]; exact HX4.out.alloc _, HB4.out.alloc HB4.out.size _⟩
        case measure => (simp [intOf] <;> omega)
      · go_wp2_with fail
        go_roundw
        case rel => exact ⟨j + 1, by omega, by have := HJK.out; first | (congr 1; omega) | (congr 1) | (subst this; rfl), by rw [(NN.out rfl).1], by rw [(NN.out rfl).2], by rw [tArr_congr fun i _ => HN.out rfl i]; exact HX4.out.alloc _, HB4.out.alloc HB4.out.size _⟩
        case measure => (simp [intOf] <;> omega)
      · go_wp2_with fail
        go_roundw
        case rel => exact ⟨j + 1, by omega, by have := HJK.out; first | (congr 1; omega) | (congr 1) | (subst this; rfl), by rw [(NN.out rfl).1], by rw [(NN.out rfl).2], by rw [tArr_congr fun i _ => HN.out rfl i]; exact HX4.out.alloc _, HB4.out.alloc HB4.out.size _⟩
        case measure => (simp [intOf] <;> omega)
      · go_wp2_with fail
        go_roundw
        case rel => exact ⟨j + 1, by omega, by have := HJK.out; first | (congr 1; omega) | (congr 1) | (subst this; rfl), by rw [(NN.out rfl).1], by rw [(NN.out rfl).2], by rw [tArr_congr fun i _ => HN.out rfl i]; exact HX4.out.alloc _, HB4.out.alloc HB4.out.size _⟩
        case measure => (simp [intOf] <;> omega)
      · have hX5 := HX4.out.alloc (.cells #[.string X, .int .u8 m, .int .i64 (opZ k), .int .i64 (opY k : Int), .bool true] 27)
        have cm := hX5.cell m
        rw [tArr_at 20 _ m hm20] at cm
        have fm := hX5.frozen m
        have HX5 := Lib.hid hX5
        clear hX5
        have cm4 := HX4.out.cell m
        rw [tArr_at 20 _ m hm20] at cm4
        have fm4 := HX4.out.frozen m
        have g4 := HX4.out.lt
        have g4' : g ≠ w4.heap.size := by omega
        go_wp2_with fail
        go_roundw
        case rel => exact ⟨j + 1, by omega, by have := HJK.out; first | (congr 1; omega) | (congr 1) | (subst this; rfl), by rw [(NN.out rfl).1], by rw [(NN.out rfl).2], by rw [tArr_congr fun i _ => HY.out rfl i, ← tArr_set]; exact (HX4.out.set_ m (.bool true)).alloc _, (HB4.out.setCell (p := ⟨g, m, none⟩) hgW (.bool true)).alloc (HB4.out.setCell (p := ⟨g, m, none⟩) hgW (.bool true)).size _⟩
        case measure => (simp [intOf] <;> omega)
      · have hX5 := HX4.out.alloc (.cells #[.string X, .int .u8 m, .int .i64 (opZ k), .int .i64 (opY k : Int), .bool true] 27)
        have cm := hX5.cell m
        rw [tArr_at 20 _ m hm20] at cm
        have fm := hX5.frozen m
        have HX5 := Lib.hid hX5
        clear hX5
        have cm4 := HX4.out.cell m
        rw [tArr_at 20 _ m hm20] at cm4
        have fm4 := HX4.out.frozen m
        have g4 := HX4.out.lt
        have g4' : g ≠ w4.heap.size := by omega
        go_wp2_with fail
        go_roundw
        case rel => exact ⟨j + 1, by omega, by have := HJK.out; first | (congr 1; omega) | (congr 1) | (subst this; rfl), by rw [(NY.out rfl).1]; first | done | go_num, by rw [(NY.out rfl).2]; first | done | rw [HJK.out], by rw [tArr_congr fun i _ => HY.out rfl i, ← tArr_set]; exact (HX4.out.set_ m (.bool true)).alloc _, (HB4.out.setCell (p := ⟨g, m, none⟩) hgW (.bool true)).alloc (HB4.out.setCell (p := ⟨g, m, none⟩) hgW (.bool true)).size _⟩
        case measure => (simp [intOf] <;> omega)
    · obtain rfl : j = 256 := by omega
      rw [show (255 : Int) - ((256 : Nat) : Int) = -1 by omega]
      obtain ⟨N0, hN0⟩ : ∃ q, nF s.toList b 256 = q := ⟨_, rfl⟩
      obtain ⟨F0, hF0⟩ : ∃ q, fF s.toList b 256 = q := ⟨_, rfl⟩
      have h1 := H1.out
      rw [hN0, hF0] at h1
      rw [hN0, hF0]
      have HH1 := Lib.hid h1
      have HXM := Lib.hid hX'
      have HBM := Lib.hid hB
      have hgM := hX'.lt
      clear h1 hN0 hF0 hX' hB hle
      go_wp2_with fail
      generalize wr = wM at *
      go_loopw [12, 13] (fun v i wr2 => ∃ k : Nat, k ≤ 20 ∧ i = .int .i64 k ∧ wr2.ownsRow wM.heap.size 5 1 v (wmL s.toList k).length (((wmL s.toList k).map fun i : Nat => (i : Int)).map (Value.int .u8)) ∧ Below wM.heap.size wM wr2) (fun _ i _ => 20 - (intOf i).toNat)
      case atStart => exact ⟨0, by omega, rfl, World.ownsRow_nil _ _ _ _, Below.refl _ _⟩
      case round =>
        obtain ⟨k, hk, rfl, own, hB⟩ := hrel
        have hS := hB.size
        have hlen := wmL_len s.toList k
        by_cases hlt : k < 20
        · have ck := (HXM.out.below hB hgM).cell k
          rw [tArr_at 20 _ k hlt] at ck
          have ey := wmL_yes s.toList k
          have en := wmL_no s.toList k
          obtain ⟨q, hq⟩ : ∃ q, hF s.toList 256 k = q := ⟨_, rfl⟩
          rw [hq] at ey en ck
          have EY := Lib.hid ey
          have EN := Lib.hid en
          have i1 : (0 : Int) ≤ k := by omega
          have i2 : IntKind.u8.wrap (k : Int) = k := IntWalk.u8_in _ (by omega)
          have i3 : (k : Int) < 20 := by omega
          clear ey en hq
          cases q with
          | false =>
            have OWN := Lib.hid own
            have HBr := Lib.hid hB
            clear own hB
            go_wp2_with fail
            go_roundw
            case rel => exact ⟨k + 1, by omega, by go_num, by rw [EN.out rfl]; exact OWN.out, HBr.out⟩
            case measure => (simp [intOf] <;> omega)
          | true =>
            obtain ⟨v', w', hrun, own', gb⟩ := more_new (P := Tryd.prog) (t := 33) (e := 5) (ty := 33) (c := 1) (m := 1) Tryd.underlying33 infE rfl (by decide) own #[.int .u8 (k : Int)] rfl (fun x hx => by simp at hx; subst hx; rfl) rfl (by omega) (by omega) hS
            have hB' : Below wM.heap.size wM w' := (hB.alloc hS (.cells #[.int .u8 (k : Int)] 5)).grown gb (by simp; omega) (fun i h => (own.lt i h).1)
            have OWN := Lib.hid own'
            have HB' := Lib.hid hB'
            clear own hB own' gb hB'
            go_wp2_with (at_builtin; refine wpList_append_run rfl (.tmp 54) (.tmp 57) 33 rfl rfl rfl hrun ?_)
            go_roundw
            case rel => exact ⟨k + 1, by omega, by go_num, by rw [EY.out rfl, List.length_append, List.map_append, List.map_append]; exact OWN.out, HB'.out⟩
            case measure => (simp [intOf] <;> omega)
        · obtain rfl : k = 20 := by omega
          have HBN := Lib.hid (HBM.out.trans (hB.mono HBM.out.size))
          have hwx : ∀ x ∈ (wmL s.toList 20).map fun i : Nat => (i : Int), 0 ≤ x ∧ x ≤ 255 := fun x hx => by
            obtain ⟨y, hy, rfl⟩ := List.mem_map.1 hx
            unfold wmL at hy
            rw [List.mem_filter, List.mem_range] at hy
            omega
          rw [show (wmL s.toList 20).length = ((wmL s.toList 20).map fun i : Nat => (i : Int)).length by simp] at own
          have OWN := Lib.hid own
          have HWX := Lib.hid hwx
          obtain ⟨A1, c1, rfl, _⟩ := row_ints own hwx
          have hms : (mdL s.toList (knL 256)).length = ((wmL s.toList 20).map fun i : Nat => (i : Int)).length := by rw [← wm_sort]; exact (sortL_perm _).length_eq.symm
          rw [hms, wm_sort] at hMd
          have hxl : ((wmL s.toList 20).map fun i : Nat => (i : Int)).length ≤ 20 := by simpa using hlen
          obtain ⟨xs, hxs⟩ : ∃ xs, (wmL s.toList 20).map (fun i : Nat => (i : Int)) = xs := ⟨_, rfl⟩
          rw [hxs] at hMd OWN HWX hxl ⊢
          clear own hB hwx hms hxs hlen
          rcases HH1.out with ⟨e1, rfl, rfl⟩ | ⟨x, e1, rfl, rfl⟩
          all_goals
            have h2 := HCO.out
            rw [e1] at h2
            simp only [fndV, Value.tuple.injEq] at h2
            simp at h2
            obtain ⟨rfl, rfl⟩ := h2
            clear e1 HH1 HCO
            try have xx : ((x.val : Int) == x.val) = true := beq_self_eq_true _
            try have x0 : (0 : Int) ≤ x.val := by omega
            go_wp2_with fail
            refine (hMd _).mono ?_
            rintro e w5 ⟨v2, rfl, own2, b5⟩
            have HB5 := Lib.hid (HBN.out.trans (b5.mono HBN.out.size))
            obtain ⟨A2, c2, rfl, R2⟩ := row_ints own2 HWX.out
            obtain ⟨A3, c3, h3, R1⟩ := row_ints (own_belowG OWN.out b5) HWX.out
            cases h3
            clear own2 b5 hMd
            go_wp2_with fail
            refine (asame2 (by unfold maxLen; omega) R2 R1 (fun i _ => rfl)).mono ?_
            rintro e w6 ⟨rfl, b6⟩
            have HB6 := Lib.hid (HB5.out.trans (b6.mono HB5.out.size))
            clear b6
            go_wp2_with fail
            go_ret
            exact ⟨rfl, HB6.out⟩

theorem own : ownKnob Tryd.prog.godebug = none := by kernel_rfl
theorem laidOut : laidOutB Tryd.prog = true := by kernel_rfl
set_option maxRecDepth 100000 in
theorem lifted (os : Os) (started : os.Started) (H : Type) (enc : TypeId × Value → H) :
    ReturnsInHanded {} Tryd.checked os 4 .any (fun w args => (Rows.opcodeFindsSpec.pre enc Tryd.prog Tryd.f4 [] false w args ∧ laidMetH Tryd.prog laid2 w) ∧ sizedMet enc Tryd.prog Tryd.f4 (OpenSpec.ofChange Rows.opcodeFindsSpec) false w args)
      (Rows.opcodeFindsSpec.post enc Tryd.prog Tryd.f4 false true false false) := by
  refine returnsInHanded_of_change_and (C := Tryd.checked) (X := fun w _ => laidMetH Tryd.prog laid2 w) (fun _ _ _ hh h => h.of_heap hh) own started (by kernel_rfl) Tryd.func4
    (ChangeSpec.witness_shaped (enc := enc) (C := Tryd.checked) (os := os) (X := fun w _ => laidMetH Tryd.prog laid2 w) false (World.laidAll Tryd.prog os laid2) #[.string ⟨#[]⟩, .int .u8 0] 8 (World.laidAll_os _ _ _) (World.shaped_of_ZipB (by kernel_rfl) (by kernel_rfl)) (by kernel_rfl) (by kernel_rfl) (by kernel_rfl) (by rw [MakeChecks.laidMetH_plain _ _ _ (by kernel_rfl)]; exact laidMet_laidAll _ (by kernel_rfl) (by kernel_rfl))) ?_
  intro W base args ds gs before hval0 hW _ _ hL0 _
  have hL : laidMetH Tryd.prog laid2 W := hL0
  rw [MakeChecks.laidMetH_plain _ _ _ (by kernel_rfl)] at hL
  have HT := of_laid hL
  have hval : ∀ (j : Nat) t v, Tryd.f4.params[j]? = some t → args[j]? = some v → Value.okWide Tryd.prog W .any base t v := hval0
  have hW' := hW
  obtain ⟨p, q, hA0, hV, rfl, _, _⟩ := hW
  have hA : DataW.TrodAll enc Tryd.prog W 0 (fun _ => true) true Tryd.f4.params.toList args.toList ds p := hA0
  rw [Tryd.params4] at hA hval
  obtain ⟨v0, vs0, d0, ds0, p0, q0, hargs, rfl, rfl, h0, r0⟩ := trodAll_cons hA
  obtain ⟨v1, vs1, d1, ds1, p1, q1, rfl, rfl, rfl, h1, r1⟩ := trodAll_cons r0
  obtain ⟨rfl, rfl, rfl⟩ := trodAll_nil r1
  obtain rfl : args = #[v0, v1] := by cases args; simp_all
  obtain ⟨rfl, rfl⟩ := trodVars_none hV
  obtain ⟨a0, rfl, rfl, rfl, w0⟩ := open_string Tryd.underlying9 (hval 0 9 v0 rfl rfl) h0
  obtain ⟨a1, rfl, rfl, rfl, w1⟩ := open_int Tryd.underlying5 (hval 1 5 v1 rfl rfl) h1
  clear hA0 hval0
  refine (walk a0 w0 a1 w1 W HT).mono fun e W' ⟨he, hg⟩ => ?_
  subst he
  exact ⟨_, rfl, law_post rfl Tryd.underlying4 laidOut (by kernel_rfl) rfl hW' rfl hg⟩

theorem over : Rows.opcodeFindsRow.holds Tryd.pinned (OpenSpec.ofChange Rows.opcodeFindsSpec) :=
  OpenClaim.holds_of_wide 4 Tryd.f4 rfl rfl rfl rfl rfl rfl rfl ⟨rfl, rfl, rfl, rfl, rfl⟩ rfl rfl rfl rfl rfl (by kernel_rfl) Tryd.func4 (by kernel_rfl)
    (of_decide_eq_true (by kernel_rfl)) (by unfold Func.isWrapper; first | (rw [if_pos (by decide +kernel)]; kernel_rfl) | (rw [if_neg (by decide +kernel)]; exact ⟨rfl, rfl⟩))
    (fun os started H enc _ => lifted os started H enc)

theorem proved : Rows.OpcodeFindsCardSaid :=
  Claim7.holds_tied_plain_at .later [] [.data, .pinned] true _ false
    over (fun _ h => by cases h) (by kernel_rfl) (fun _ h => by cases h) opcodeFinds_row_tie rfl ⟨rfl, rfl⟩ (by kernel_rfl) rfl
    (fun f fn hf hfn => by
      obtain rfl : f = 4 := Option.some.inj ((show Tryd.prog.funcNamed "gannet/gannetlaw23.OpcodeFinds" = some 4 by kernel_rfl).symm.trans hf) |>.symm
      obtain rfl : fn = Tryd.f4 := (Option.some.inj (Tryd.func4.symm.trans hfn)).symm
      exact ⟨by kernel_rfl, fun j t ht => by
        rw [Tryd.params4] at ht
        have hm : t ∈ [9, 5] := by simpa using Array.mem_of_getElem? ht
        have hall : ([9, 5].all fun u => !Tryd.prog.wantsStandIn u) = true := by kernel_rfl
        exact (show Tryd.prog.wantsStandIn t = false by simpa using List.all_eq_true.1 hall t hm)⟩)
    (by kernel_rfl)
#print axioms proved
end Go.Proofs.YtleofglnlfpoeaaDoor.opcodeFinds
