/-
  For every input TopEdges returns true, and each argument reads behind the call as it read before. No conditions.
-/
import Derived.Test.YtjknjlkjpccibaaRows
import Derived.Deep.Cut
import Derived.Deep.CutRange
import Derived.Deep.RegionHeld3
import Derived.Deep.RegionWith
import Derived.RegionTactic
import Derived.BigRegion
import Derived.LoopTactic
import Derived.Test.YtjknjlkjpccibaaKTopEdges3
namespace Go.Proofs.Ytjknjlkjpccibaa.topEdges
open Go.ChangeShapes Go.WideShapes Go.ChangeAt Go.RowKit
open Go.ChangeMaps (open_string)

set_option linter.unusedVariables false
set_option linter.unusedSimpArgs false
theorem up_mono {es : Nat → Iib} {n : Nat} (h : ∀ j, j < n → badE es j = 0) (i k : Nat) (hi : i ≤ k) (hk : k < n) : (es i).a ≤ (es k).a := by
  induction k with
  | zero => obtain rfl : i = 0 := by omega
            exact Int.le_refl _
  | succ k ih =>
    by_cases e : i = k + 1
    · subst e; exact Int.le_refl _
    · have h1 := ih (by omega) (by omega)
      have h2 := h (k + 1) hk
      unfold badE at h2
      have h3 : (es k).a ≤ (es (k + 1)).a := by
        by_cases c : (es (k + 1)).a < (es k).a
        · by_cases q : 3 < (es (k + 1)).b
          · rw [if_pos q] at h2; omega
          · rw [if_neg q, if_pos (.inr (.inr ⟨by omega, by simpa using c⟩))] at h2; omega
        · omega
      omega
theorem lt_pass {es : Nat → Iib} {n : Nat} (h : ∀ j, j < n → badE es j = 0) (t : Int) (i : Nat) (hi : i < n) : (es i).a ≤ t ↔ i < pass es n t 0 := by
  obtain ⟨k, h1, h2, h3, h4⟩ := pass_ex (es := es) (n := n) (t := t) (s := 0) (Nat.zero_le _)
  rw [Nat.zero_add] at h1 h2 h4
  simp only [Nat.zero_add] at h3
  rw [h1]
  constructor
  · intro ha
    by_cases c : i < k
    · exact c
    · rcases h4 with h4 | h4
      · omega
      · have := up_mono h k i (by omega) hi
        omega
  · intro c; exact h3 i c
theorem st_one {es : Nat → Iib} {k q : Nat} (hk : k < q) (hb : (es k).b = 1) : roseTo es false 0 (min (k + 1) q) = (roseTo es false 0 (min k q) || ((es k).c && !upTo es (min k q) 1)) ∧ upTo es (min (k + 1) q) 1 = (es k).c := by
  rw [Nat.min_eq_left (show k + 1 ≤ q by omega), Nat.min_eq_left (show k ≤ q by omega)]
  simp only [roseTo, upTo, Nat.zero_add, hb]
  simp
theorem st_other {es : Nat → Iib} {k q : Nat} (h : ¬ (k < q ∧ (es k).b = 1)) : roseTo es false 0 (min (k + 1) q) = roseTo es false 0 (min k q) ∧ upTo es (min (k + 1) q) 1 = upTo es (min k q) 1 := by
  by_cases hk : k < q
  · have hb : ¬ (es k).b = 1 := fun e => h ⟨hk, e⟩
    rw [Nat.min_eq_left (show k + 1 ≤ q by omega), Nat.min_eq_left (show k ≤ q by omega)]
    simp only [roseTo, upTo, Nat.zero_add]
    have : ((es k).b == 1) = false := by simpa using hb
    rw [this, if_neg hb]
    simp
  · rw [Nat.min_eq_right (show q ≤ k + 1 by omega), Nat.min_eq_right (show q ≤ k by omega)]
    exact ⟨rfl, rfl⟩
def dE (n : Nat) (es : Nat → Iib) : Hd := ⟨n, es, 0, fun _ => 0, 0, fun _ => 0, 0, fun _ => 0⟩
set_option maxRecDepth 100000 in
set_option maxHeartbeats 16000000 in
theorem walk {W : World} (A : Option Addr) (n c : Nat) (es : Nat → Iib) (hnc : n ≤ c) (hm : c ≤ maxLen) (R : FRow W 3 A n (fun i => iibV .i64 .u8 (es i))) (F : ∀ i, i < n → (Lit.int .i64 (es i).a).wf = true ∧ (Lit.int .u8 (es i).b).wf = true) (N : A = none → n = 0 ∧ c = 0) (t : Int) (wt : (Lit.int .i64 t).wf = true) :
    Calls Try.prog 7 #[.slice A n c, .int .i64 t] W fun e w' => e = .returned (.bool true) ∧ Below W.heap.size W w' := by
  unfold maxLen at hm
  obtain ⟨t0, t1⟩ := bounds_i64 wt
  have HR : Hid (ERow W A n es) := Lib.hid R
  have hn : n ≤ 9223372036854775807 := by omega
  have HN := Lib.hid N
  have HF := Lib.hid F
  obtain ⟨B, hB⟩ : ∃ B, W.heap.size = B := ⟨_, rfl⟩
  have HBB := Lib.hid hB
  clear R F N wt hB
  by_cases hk : (chk es n).1 = 0
  · obtain ⟨q1, q2, _⟩ := chk_zero hk
    have HK := Lib.hid hk
    have GD : Hid (Good n es) := Lib.hid ⟨q1, q2, fun j hj => (bounds_u8 (HF.out j hj).2).1⟩
    clear hk q2
    go_enter Try.func7, Try.ntmps7
    go_wp2_with fail
    refine (bit_v (x := true) (by kernel_rfl)).mono ?_
    rintro e w' ⟨rfl, rfl⟩
    go_wp2_with fail
    refine (hnew_yes (z1 := fun _ => 0) (z2 := fun _ => 0) (z3 := fun _ => 0) (fun _ => ⟨rfl, rfl⟩) (fun _ => ⟨rfl, rfl⟩) (fun _ => ⟨rfl, rfl⟩) HN.out (fun i hi => absurd hi (by omega)) (fun i hi => absurd hi (by omega)) (fun i hi => absurd hi (by omega)) HR.out (by omega) hn HK.out GD.out).mono ?_
    rintro e w1 ⟨g, b, rfl, hg, h1, b1⟩
    rw [HBB.out] at hg b1
    have T1 : Hid (HT B W g (dE n es) b Hp.new w1) := Lib.hid ⟨h1, b1, HBB.out ▸ b1.size, hg⟩
    clear hg h1 b1
    go_wp2_with fail
    have T2 := Lib.hid (T1.out.on ((Below.refl w1.heap.size w1).alloc (Nat.le_refl _) (.cells #[.int .i64 0, .int .i64 0] 48)))
    clear T1
    generalize World.alloc _ _ = w2 at *
    obtain ⟨Q, hQ⟩ : ∃ Q, (if 0 < t then pass es n t 0 else 0) = Q := ⟨_, rfl⟩
    obtain ⟨x, hx⟩ : ∃ x : Hp, x = { Hp.new with s := Q, ro := roseTo es false 0 Q, now := if 0 < t then t else 0 } := ⟨_, rfl⟩
    have he : Hp.new.to (dE n es) t = { Hp.new with s := Q, ro := roseTo es false 0 Q, now := if 0 < t then t else 0, tm := Tm.new, q := ⟨0, false⟩ } := by
      unfold Hp.to
      by_cases c0 : t ≤ Hp.new.now
      · have c1 : ¬ 0 < t := by have : Hp.new.now = 0 := rfl; omega
        rw [if_pos c0, if_neg c1]
        rw [if_neg c1] at hQ
        subst hQ
        rfl
      · have c1 : 0 < t := by have : Hp.new.now = 0 := rfl; omega
        rw [if_neg c0, if_pos c1]
        rw [if_pos c1] at hQ
        subst hQ
        rfl
    have he2 : Hp.new.to (dE n es) t = x := by rw [he, hx]; rfl
    have HE2 := Lib.hid he2
    have HX := Lib.hid hx
    clear he he2 hx
    refine (hgo_v T2.out.1 (by omega) HE2.out).mono ?_
    rintro e w3 ⟨rfl, y1, y2⟩
    have HT3 := Lib.hid (T2.out.go (by simp) y1 y2)
    clear y1 y2 T2
    obtain ⟨last, hl⟩ : ∃ last, (if t < 0 then 0 else t) = last := ⟨_, rfl⟩
    have HL := Lib.hid hl
    have HQ := Lib.hid hQ
    clear hQ
    go_wp2_with fail
    go_loopw [9, 10, 11] (fun r u i wr => ∃ k : Nat, k ≤ n ∧ i = .int .i64 k ∧ r = .bool (roseTo es false 0 (min k Q)) ∧ u = .bool (upTo es (min k Q) 1) ∧ HT B W g (dE n es) b x wr) (fun _ _ i _ => n - (intOf i).toNat)
    case atStart => exact ⟨0, Nat.zero_le _, rfl, by rw [Nat.zero_min]; rfl, by rw [Nat.zero_min]; rfl, HT3.out⟩
    case round =>
      obtain ⟨k, hk, rfl, rfl, rfl, hI⟩ := hrel
      clear HT3
      have HT3 := Lib.hid hI
      by_cases hlt : k < n
      · obtain ⟨ad, e1, hl1, d0, d1, d2⟩ := ERow.cells (FRow.keep HR.out (by rw [HBB.out]; exact hI.2.1)) k hlt
        subst e1
        have hmon := lt_pass GD.out.2.1 t k hlt
        have hb0 := GD.out.2.2 k hlt
        obtain ⟨r0, hr0⟩ : ∃ r, roseTo es false 0 (min k Q) = r := ⟨_, rfl⟩
        obtain ⟨u0, hu0⟩ : ∃ u, upTo es (min k Q) 1 = u := ⟨_, rfl⟩
        have S1 := fun (a : k < Q) (bb : (es k).b = 1) => st_one (es := es) a bb
        have S2 := fun (a : ¬ (k < Q ∧ (es k).b = 1)) => st_other (es := es) a
        rw [hr0, hu0] at S1 S2
        have HS1 := Lib.hid S1
        have HS2 := Lib.hid S2
        obtain ⟨xa, hxa⟩ : ∃ a, (es k).a = a := ⟨_, rfl⟩
        obtain ⟨xb, hxb⟩ : ∃ a, (es k).b = a := ⟨_, rfl⟩
        obtain ⟨xc, hxc⟩ : ∃ a, (es k).c = a := ⟨_, rfl⟩
        rw [hxa] at d0 hmon
        rw [hxb] at d1 hb0
        rw [hxc] at d2
        rw [hr0, hu0]
        have i0 : (0 : Int) ≤ (k : Int) := by omega
        have i1 : (k : Int) < n := by omega
        have hyes : xb = 1 → xa ≤ last → 0 < t → roseTo es false 0 (min (k + 1) Q) = (r0 || (xc && !u0)) ∧ upTo es (min (k + 1) Q) 1 = xc := fun a1 a2 a3 => by
          have hl2 := HL.out
          rw [if_neg (by omega)] at hl2
          have hq := HQ.out
          rw [if_pos a3] at hq
          have := HS1.out (by rw [← hq]; exact hmon.1 (by omega)) (by rw [hxb]; exact a1)
          rw [hxc] at this
          exact this
        have hno : ¬ (xb = 1 ∧ xa ≤ last ∧ 0 < t) → roseTo es false 0 (min (k + 1) Q) = r0 ∧ upTo es (min (k + 1) Q) 1 = u0 := fun a => HS2.out fun ⟨c1, c2⟩ => a (by
          rw [hxb] at c2
          have hq := HQ.out
          by_cases a3 : 0 < t
          · rw [if_pos a3] at hq
            have hl2 := HL.out
            rw [if_neg (by omega)] at hl2
            exact ⟨c2, by have := hmon.2 (by rw [hq]; exact c1); omega, a3⟩
          · rw [if_neg a3] at hq
            omega)
        have HYES := Lib.hid hyes
        have HNO := Lib.hid hno
        clear S1 S2 HS1 HS2 hyes hno hmon hxa hxb hxc hr0 hu0 hI hl1
        by_cases c1 : xb = 1
        · subst c1
          by_cases c2 : xa ≤ last
          · by_cases c3 : 0 < t
            · obtain ⟨z1, z2⟩ := HYES.out rfl c2 c3
              have Z1 := Lib.hid z1
              have Z2 := Lib.hid z2
              clear z1 z2 HYES HNO hb0
              cases r0 <;> cases xc <;> cases u0
              all_goals
                go_wp2_with fail
                go_roundw
                case rel => exact ⟨k + 1, by omega, by go_num, by rw [Z1.out]; rfl, by rw [Z2.out], HT3.out⟩
                case measure => simp [intOf]; omega
            · have c3' : t ≤ 0 := by omega
              obtain ⟨z1, z2⟩ := HNO.out (fun h => c3 h.2.2)
              have Z1 := Lib.hid z1
              have Z2 := Lib.hid z2
              clear z1 z2 HYES HNO hb0
              go_wp2_with fail
              go_roundw
              case rel => exact ⟨k + 1, by omega, by go_num, by rw [Z1.out], by rw [Z2.out], HT3.out⟩
              case measure => simp [intOf]; omega
          · have c2' : last < xa := by omega
            obtain ⟨z1, z2⟩ := HNO.out (fun h => c2 h.2.1)
            have Z1 := Lib.hid z1
            have Z2 := Lib.hid z2
            clear z1 z2 HYES HNO hb0
            go_wp2_with fail
            go_roundw
            case rel => exact ⟨k + 1, by omega, by go_num, by rw [Z1.out], by rw [Z2.out], HT3.out⟩
            case measure => simp [intOf]; omega
        · have c1' : (xb == 1) = false := by simpa using c1
          obtain ⟨z1, z2⟩ := HNO.out (fun h => c1 h.1)
          have Z1 := Lib.hid z1
          have Z2 := Lib.hid z2
          clear z1 z2 HYES HNO hb0
          go_wp2_with fail
          go_roundw
          case rel => exact ⟨k + 1, by omega, by go_num, by rw [Z1.out], by rw [Z2.out], HT3.out⟩
          case measure => simp [intOf]; omega
      · obtain rfl : k = n := by omega
        have hQn : min k Q = Q := by
          have hq := HQ.out
          obtain ⟨p, h1, h2, _⟩ := pass_ex (es := es) (n := k) (t := t) (s := 0) (Nat.zero_le _)
          by_cases a3 : 0 < t
          · rw [if_pos a3] at hq; omega
          · rw [if_neg a3] at hq; omega
        rw [hQn]
        clear hI
        obtain ⟨v0, h0⟩ : ∃ u, upTo es Q 0 = u := ⟨_, rfl⟩
        obtain ⟨v2, h2⟩ : ∃ u, upTo es Q 2 = u := ⟨_, rfl⟩
        obtain ⟨v3, h3⟩ : ∃ u, upTo es Q 3 = u := ⟨_, rfl⟩
        obtain ⟨ro, hr⟩ : ∃ u, roseTo es false 0 Q = u := ⟨_, rfl⟩
        obtain ⟨u1, hu1⟩ : ∃ u, upTo es Q 1 = u := ⟨_, rfl⟩
        rw [hr, hu1]
        have hch : x.ch (dE k es) false = chI 0 false v0 ro v2 v3 false := by
          rw [HX.out, ← h0, ← h2, ← h3, ← hr]; rfl
        have hlim : x.lim 1000000 := by rw [HX.out]; exact ⟨Nat.zero_le _, Nat.zero_le _, Nat.zero_le _⟩
        have HCH := Lib.hid hch
        have HLIM := Lib.hid hlim
        clear hch hlim hu1 hQn
        by_cases c3 : 0 < t
        · have hlt2 : last = t := by have := HL.out; rw [if_neg (by omega)] at this; omega
          have hq : pass es k last 0 = Q := by have := HQ.out; rw [if_pos c3] at this; rw [hlt2]; exact this
          have A0 : Hid (upTo es (pass es k last 0) 0 = v0) := Lib.hid (by rw [hq]; exact h0)
          have A2 : Hid (upTo es (pass es k last 0) 2 = v2) := Lib.hid (by rw [hq]; exact h2)
          have A3 : Hid (upTo es (pass es k last 0) 3 = v3) := Lib.hid (by rw [hq]; exact h3)
          clear hq hlt2 h0 h2 h3 hr
          cases v0 with
          | true =>
            go_wp2_with fail
            refine (at_any (FRow.keep HR.out (by rw [HBB.out]; exact HT3.out.2.1)) hn 0 last).mono ?_
            rw [A0.out]
            rintro e w' ⟨rfl, bb⟩
            replace HT3 := Lib.hid (HT3.out.on bb)
            clear bb
            go_wp2_with fail
            refine (hchoose_v HT3.out.1 (m := false) (v := 1) (by rw [HCH.out]; unfold chI; simp)).mono ?_
            rintro e w8 ⟨rfl, b8⟩
            have T8 := Lib.hid (HT3.out.on b8)
            clear b8
            go_wp2_with fail
            refine (hread_v T8.out.1 HLIM.out (k := 2) (v := 255) (by decide) (by decide) (by decide) rfl rfl rfl).mono ?_
            rintro e w9 ⟨rfl, y1, y2⟩
            have T9 := Lib.hid (T8.out.go (fun _ h => h) y1 y2)
            go_wp2_with fail
            go_ret
            exact ⟨by simp, by rw [HBB.out]; exact T9.out.2.1⟩
          | false =>
            cases ro with
            | true =>
              go_wp2_with fail
              refine (at_any (FRow.keep HR.out (by rw [HBB.out]; exact HT3.out.2.1)) hn 0 last).mono ?_
              rw [A0.out]
              rintro e w' ⟨rfl, bb⟩
              replace HT3 := Lib.hid (HT3.out.on bb)
              clear bb
              go_wp2_with fail
              refine (hchoose_v HT3.out.1 (m := false) (v := 2) (by rw [HCH.out]; unfold chI; simp)).mono ?_
              rintro e w8 ⟨rfl, b8⟩
              have T8 := Lib.hid (HT3.out.on b8)
              clear b8
              go_wp2_with fail
              refine (hread_v T8.out.1 HLIM.out (k := 2) (v := 255) (by decide) (by decide) (by decide) rfl rfl rfl).mono ?_
              rintro e w9 ⟨rfl, y1, y2⟩
              have T9 := Lib.hid (T8.out.go (fun _ h => h) y1 y2)
              go_wp2_with fail
              go_ret
              exact ⟨by simp, by rw [HBB.out]; exact T9.out.2.1⟩
            | false =>
              cases v2 with
              | true =>
                go_wp2_with fail
                refine (at_any (FRow.keep HR.out (by rw [HBB.out]; exact HT3.out.2.1)) hn 0 last).mono ?_
                rw [A0.out]
                rintro e w' ⟨rfl, bb⟩
                replace HT3 := Lib.hid (HT3.out.on bb)
                clear bb
                go_wp2_with fail
                refine (at_any (FRow.keep HR.out (by rw [HBB.out]; exact HT3.out.2.1)) hn 2 last).mono ?_
                rw [A2.out]
                rintro e w' ⟨rfl, bb⟩
                replace HT3 := Lib.hid (HT3.out.on bb)
                clear bb
                go_wp2_with fail
                refine (hchoose_v HT3.out.1 (m := false) (v := 4) (by rw [HCH.out]; unfold chI; simp)).mono ?_
                rintro e w8 ⟨rfl, b8⟩
                have T8 := Lib.hid (HT3.out.on b8)
                clear b8
                go_wp2_with fail
                refine (hread_v T8.out.1 HLIM.out (k := 2) (v := 255) (by decide) (by decide) (by decide) rfl rfl rfl).mono ?_
                rintro e w9 ⟨rfl, y1, y2⟩
                have T9 := Lib.hid (T8.out.go (fun _ h => h) y1 y2)
                go_wp2_with fail
                go_ret
                exact ⟨by simp, by rw [HBB.out]; exact T9.out.2.1⟩
              | false =>
                cases v3 with
                | true =>
                  go_wp2_with fail
                  refine (at_any (FRow.keep HR.out (by rw [HBB.out]; exact HT3.out.2.1)) hn 0 last).mono ?_
                  rw [A0.out]
                  rintro e w' ⟨rfl, bb⟩
                  replace HT3 := Lib.hid (HT3.out.on bb)
                  clear bb
                  go_wp2_with fail
                  refine (at_any (FRow.keep HR.out (by rw [HBB.out]; exact HT3.out.2.1)) hn 2 last).mono ?_
                  rw [A2.out]
                  rintro e w' ⟨rfl, bb⟩
                  replace HT3 := Lib.hid (HT3.out.on bb)
                  clear bb
                  go_wp2_with fail
                  refine (at_any (FRow.keep HR.out (by rw [HBB.out]; exact HT3.out.2.1)) hn 3 last).mono ?_
                  rw [A3.out]
                  rintro e w' ⟨rfl, bb⟩
                  replace HT3 := Lib.hid (HT3.out.on bb)
                  clear bb
                  go_wp2_with fail
                  refine (hchoose_v HT3.out.1 (m := false) (v := 5) (by rw [HCH.out]; unfold chI; simp)).mono ?_
                  rintro e w8 ⟨rfl, b8⟩
                  have T8 := Lib.hid (HT3.out.on b8)
                  clear b8
                  go_wp2_with fail
                  refine (hread_v T8.out.1 HLIM.out (k := 2) (v := 255) (by decide) (by decide) (by decide) rfl rfl rfl).mono ?_
                  rintro e w9 ⟨rfl, y1, y2⟩
                  have T9 := Lib.hid (T8.out.go (fun _ h => h) y1 y2)
                  go_wp2_with fail
                  go_ret
                  exact ⟨by simp, by rw [HBB.out]; exact T9.out.2.1⟩
                | false =>
                  go_wp2_with fail
                  refine (at_any (FRow.keep HR.out (by rw [HBB.out]; exact HT3.out.2.1)) hn 0 last).mono ?_
                  rw [A0.out]
                  rintro e w' ⟨rfl, bb⟩
                  replace HT3 := Lib.hid (HT3.out.on bb)
                  clear bb
                  go_wp2_with fail
                  refine (at_any (FRow.keep HR.out (by rw [HBB.out]; exact HT3.out.2.1)) hn 2 last).mono ?_
                  rw [A2.out]
                  rintro e w' ⟨rfl, bb⟩
                  replace HT3 := Lib.hid (HT3.out.on bb)
                  clear bb
                  go_wp2_with fail
                  refine (at_any (FRow.keep HR.out (by rw [HBB.out]; exact HT3.out.2.1)) hn 3 last).mono ?_
                  rw [A3.out]
                  rintro e w' ⟨rfl, bb⟩
                  replace HT3 := Lib.hid (HT3.out.on bb)
                  clear bb
                  go_wp2_with fail
                  refine (hchoose_v HT3.out.1 (m := false) (v := 0) (by rw [HCH.out]; unfold chI; simp)).mono ?_
                  rintro e w8 ⟨rfl, b8⟩
                  have T8 := Lib.hid (HT3.out.on b8)
                  clear b8
                  go_wp2_with fail
                  refine (hread_v T8.out.1 HLIM.out (k := 2) (v := 255) (by decide) (by decide) (by decide) rfl rfl rfl).mono ?_
                  rintro e w9 ⟨rfl, y1, y2⟩
                  have T9 := Lib.hid (T8.out.go (fun _ h => h) y1 y2)
                  go_wp2_with fail
                  go_ret
                  exact ⟨by simp, by rw [HBB.out]; exact T9.out.2.1⟩
        · have c3' : t ≤ 0 := by omega
          have hq : Q = 0 := by have := HQ.out; rw [if_neg c3] at this; exact this.symm
          subst hq
          have e0 : v0 = false := h0.symm
          have e2 : v2 = false := h2.symm
          have e3 : v3 = false := h3.symm
          have er : ro = false := hr.symm
          subst e0 e2 e3 er
          clear h0 h2 h3 hr
          go_wp2_with fail
          refine (hchoose_v HT3.out.1 (m := false) (v := 0) (by rw [HCH.out]; unfold chI; simp)).mono ?_
          rintro e w8 ⟨rfl, b8⟩
          have T8 := Lib.hid (HT3.out.on b8)
          clear b8
          go_wp2_with fail
          refine (hread_v T8.out.1 HLIM.out (k := 2) (v := 255) (by decide) (by decide) (by decide) rfl rfl rfl).mono ?_
          rintro e w9 ⟨rfl, y1, y2⟩
          have T9 := Lib.hid (T8.out.go (fun _ h => h) y1 y2)
          go_wp2_with fail
          go_ret
          exact ⟨by simp, by rw [HBB.out]; exact T9.out.2.1⟩
  · have hno := fun (w : World) (r : ERow w A n es) => hnew_bad (A1 := none) (A2 := none) (A3 := none) (n1 := 0) (n2 := 0) (n3 := 0) (c1 := 0) (c2 := 0) (c3 := 0) (c := c) r (by omega) hn hk
    have hck := fun (w : World) (r : ERow w A n es) => check_any (c := c) r hn
    obtain ⟨⟨a, b⟩, hab⟩ : ∃ r, chk es n = r := ⟨_, rfl⟩
    rw [hab] at hk hno hck
    have hne : (a == 0) = false := by simpa using hk
    have HNO := Lib.hid hno
    have HCK := Lib.hid hck
    have ta : (a == a) = true := by simp
    have tb : (b == b) = true := by simp
    clear hno hck hk hab
    go_enter Try.func7, Try.ntmps7
    go_wp2_with fail
    refine (bit_v (x := true) (by kernel_rfl)).mono ?_
    rintro e w' ⟨rfl, rfl⟩
    go_wp2_with fail
    refine (HNO.out _ HR.out).mono ?_
    rintro e w1 ⟨rfl, b1⟩
    have HB1 := Lib.hid b1
    clear b1 HNO
    go_wp2_with fail
    have FB := Lib.hid (Blk.new w1 48 #[.int .i64 a, .int .i64 b])
    have HB2 := Lib.hid (HB1.out.alloc HB1.out.size (.cells #[.int .i64 a, .int .i64 b] 48))
    clear HB1
    generalize World.alloc _ _ = w2 at *
    generalize w1.heap.size = g1 at *
    have c0 : w2.cell? ⟨g1, 0, none⟩ = some (.int .i64 a) := FB.out.cell 0
    have c1 : w2.cell? ⟨g1, 1, none⟩ = some (.int .i64 b) := FB.out.cell 1
    try go_wp2_with fail
    refine rg_begin (S := fun w' => w'.cell? ⟨g1, 0, none⟩ = some (.int .i64 a) ∧ w'.cell? ⟨g1, 1, none⟩ = some (.int .i64 b)) 9 #[false, false, false, false, false, false, false, false, false] (by kernel_rfl) (by kernel_rfl) (by kernel_rfl) ?_ (fun hHeld => ?_)
    · exact ⟨c0, c1⟩
    refine rg_take (i := 0) (d := some 23) (l := #[true, false, false, false, false, false, false, false, false]) (fuel := 8) (v := ?_) rfl (by kernel_rfl) (by kernel_rfl) (by kernel_rfl) (by kernel_rfl) (by kernel_rfl) (fun _ _ _ h => h) (by kernel_rfl) ?_ (by assumption) ?_
    rotate_left 1
    · (intro wS hSw; (try dsimp only at hSw); go_simp; try with_reducible rfl)
    try simp only [Act.put, List.setIfInBounds_toArray, List.set_cons_zero, List.set_cons_succ]
    refine rg_take (i := 1) (d := some 24) (l := #[true, true, false, false, false, false, false, false, false]) (fuel := 7) (v := ?_) rfl (by kernel_rfl) (by kernel_rfl) (by kernel_rfl) (by kernel_rfl) (by kernel_rfl) (fun _ _ _ h => h) (by kernel_rfl) ?_ (by assumption) ?_
    rotate_left 1
    · (intro wS hSw; (try dsimp only at hSw); go_simp; try with_reducible rfl)
    try simp only [Act.put, List.setIfInBounds_toArray, List.set_cons_zero, List.set_cons_succ]
    refine rg_take (i := 2) (d := some 25) (l := #[true, true, true, false, false, false, false, false, false]) (fuel := 6) (v := ?_) rfl (by kernel_rfl) (by kernel_rfl) (by kernel_rfl) (by kernel_rfl) (by kernel_rfl) (fun _ _ _ h => h) (by kernel_rfl) ?_ (by assumption) ?_
    rotate_left 1
    · (intro wS hSw; (try dsimp only at hSw); go_simp; try with_reducible rfl)
    try simp only [Act.put, List.setIfInBounds_toArray, List.set_cons_zero, List.set_cons_succ]
    refine rg_take (i := 3) (d := some 26) (l := #[true, true, true, true, false, false, false, false, false]) (fuel := 5) (v := ?_) rfl (by kernel_rfl) (by kernel_rfl) (by kernel_rfl) (by kernel_rfl) (by kernel_rfl) (fun _ _ _ h => h) (by kernel_rfl) ?_ (by assumption) ?_
    rotate_left 1
    · (intro wS hSw; (try dsimp only at hSw); go_simp; try with_reducible rfl)
    try simp only [Act.put, List.setIfInBounds_toArray, List.set_cons_zero, List.set_cons_succ]
    refine rg_take (i := 5) (d := some 28) (l := #[true, true, true, true, false, true, false, false, false]) (fuel := 4) (v := ?_) rfl (by kernel_rfl) (by kernel_rfl) (by kernel_rfl) (by kernel_rfl) (by kernel_rfl) (fun _ _ _ h => h) (by kernel_rfl) ?_ (by assumption) ?_
    rotate_left 1
    · (intro wS hSw; (try dsimp only at hSw); go_simp; try with_reducible rfl)
    try simp only [Act.put, List.setIfInBounds_toArray, List.set_cons_zero, List.set_cons_succ]
    refine rg_next (i := 4) (l := #[true, true, true, true, true, true, false, false, false]) (fuel := 3) (by kernel_rfl) rfl (by kernel_rfl) (by kernel_rfl) (fun K hK => ?_)
    go_simp
    (go_at_call 29)
    refine (HCK.out _ (FRow.keep HR.out HB2.out.drew)).mono ?_
    simp only [fltV]
    rintro e w3 ⟨rfl, b3⟩
    have HB3 : Hid (Below W.heap.size W w3) := Lib.hid (HB2.out.drew.trans (b3.mono HB2.out.size))
    have F3 := FB.out.drew_.below b3 FB.out.drew_.lt
    have x0 : w3.cell? ⟨g1, 0, none⟩ = some (.int .i64 a) := F3.cell 0
    have x1 : w3.cell? ⟨g1, 1, none⟩ = some (.int .i64 b) := F3.cell 1
    clear b3 F3
    first | (refine hK.out _ _ ?_ (fun hHeld => ?_)) | (go_wp2_with fail; refine hK.out _ _ ?_ (fun hHeld => ?_))
    · (try dsimp only); exact ⟨x0, x1⟩
    clear hK K
    try simp only [Act.put, List.setIfInBounds_toArray, List.set_cons_zero, List.set_cons_succ]
    refine rg_take (i := 6) (d := some 29) (l := #[true, true, true, true, true, true, true, false, false]) (fuel := 2) (v := ?_) rfl (by kernel_rfl) (by kernel_rfl) (by kernel_rfl) (by kernel_rfl) (by kernel_rfl) (fun _ _ _ h => h) (by kernel_rfl) ?_ (by assumption) ?_
    rotate_left 1
    · (intro wS hSw; (try dsimp only at hSw); go_simp; try with_reducible rfl)
    try simp only [Act.put, List.setIfInBounds_toArray, List.set_cons_zero, List.set_cons_succ]
    refine rg_take (i := 7) (d := some 30) (l := #[true, true, true, true, true, true, true, true, false]) (fuel := 1) (v := ?_) rfl (by kernel_rfl) (by kernel_rfl) (by kernel_rfl) (by kernel_rfl) (by kernel_rfl) (fun _ _ _ h => h) (by kernel_rfl) ?_ (by assumption) ?_
    rotate_left 1
    · (intro wS hSw; (try dsimp only at hSw); go_simp; try with_reducible rfl)
    try simp only [Act.put, List.setIfInBounds_toArray, List.set_cons_zero, List.set_cons_succ]
    refine rg_take (i := 8) (d := some 4) (l := #[true, true, true, true, true, true, true, true, true]) (fuel := 0) (v := ?_) rfl (by kernel_rfl) (by kernel_rfl) (by kernel_rfl) (by kernel_rfl) (by kernel_rfl) (fun _ _ _ h => h) (by kernel_rfl) ?_ (by assumption) ?_
    rotate_left 1
    · (intro wS hSw; (try dsimp only at hSw); go_simp; try with_reducible rfl)
    try simp only [Act.put, List.setIfInBounds_toArray, List.set_cons_zero, List.set_cons_succ]
    refine wpAnyH_done (by kernel_rfl) ?_ _
    go_wp2_with fail
    go_ret
    exact ⟨by simp, HB3.out⟩

theorem own : ownKnob Try.prog.godebug = none := by kernel_rfl
theorem laidOut : laidOutB Try.prog = true := by kernel_rfl
set_option maxRecDepth 100000 in
theorem lifted (os : Os) (started : os.Started) (H : Type) (enc : TypeId × Value → H) :
    ReturnsInHanded {} Try.checked os 7 .any (Rows.topEdgesSpec.pre6 enc Try.prog Try.f7 Rows.topEdgesRow.domain false) (Rows.topEdgesSpec.post enc Try.prog Try.f7 false true false false) := by
  refine returnsInHanded_of_change (C := Try.checked) own started (by kernel_rfl) Try.func7
    (ChangeSpec.witness6 (enc := enc) (C := Try.checked) false ⟨#[], #[.slice none 0 0, .int .i64 0], []⟩ 8 (by kernel_rfl) (by kernel_rfl) (by kernel_rfl) (by kernel_rfl)) ?_
  intro W base args ds gs before hval0 hW _ _
  have hval : ∀ (j : Nat) t v, Try.f7.params[j]? = some t → args[j]? = some v → Value.okWide Try.prog W .any base t v := hval0
  have hW' := hW
  obtain ⟨p, q, hA0, hV, rfl, _, _⟩ := hW
  have hA : DataW.TrodAll enc Try.prog W 0 (fun _ => true) true Try.f7.params.toList args.toList ds p := hA0
  rw [Try.params7] at hA hval
  obtain ⟨v0, vs0, d0, ds0, p0, q0, hargs, rfl, rfl, h0, r0⟩ := trodAll_cons hA
  obtain ⟨v1, vs1, d1, ds1, p1, q1, rfl, rfl, rfl, h1, r1⟩ := trodAll_cons r0
  obtain ⟨rfl, rfl, rfl⟩ := trodAll_nil r1
  obtain rfl : args = #[v0, v1] := by cases args; simp_all
  obtain ⟨rfl, rfl⟩ := trodVars_none hV
  obtain ⟨A0, n0, c0, z0, rfl, g0, m0, R0, F0, N0⟩ := slice_iib Try.underlying66 Try.underlying69 (by kernel_rfl) (by kernel_rfl) Try.underlying2 Try.underlying5 Try.underlying4 (hval 0 66 v0 rfl rfl) h0
  obtain ⟨a1, rfl, rfl, rfl, w1⟩ := open_int Try.underlying2 (hval 1 2 v1 rfl rfl) h1
  clear hA0 hval0
  refine (walk A0 n0 c0 z0 g0 m0 R0 F0 N0 a1 w1).mono fun e W' ⟨he, hg⟩ => ?_
  subst he
  exact ⟨_, rfl, law_post rfl Try.underlying4 laidOut (by kernel_rfl) rfl hW' rfl hg⟩

theorem over : Rows.topEdgesRow.holds Try.pinned (OpenSpec.ofChange Rows.topEdgesSpec) :=
  OpenClaim.holds_of_wide 7 Try.f7 rfl rfl rfl rfl rfl rfl rfl ⟨rfl, rfl, rfl, rfl, rfl⟩ rfl rfl rfl rfl rfl (by kernel_rfl) Try.func7 (by kernel_rfl)
    (of_decide_eq_true (by kernel_rfl)) (by unfold Func.isWrapper; first | (rw [if_pos (by decide +kernel)]; kernel_rfl) | (rw [if_neg (by decide +kernel)]; exact ⟨rfl, rfl⟩))
    (fun os started H enc _ => lifted os started H enc)

theorem proved : Rows.TopEdgesSaid := over
#print axioms proved
end Go.Proofs.Ytjknjlkjpccibaa.topEdges
