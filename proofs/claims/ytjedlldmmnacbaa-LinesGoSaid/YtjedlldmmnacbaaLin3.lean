/-
  Edges: At, the reference's At; slices.Clone of edges; New.
-/
import Derived.Test.YtjedlldmmnacbaaLin2
import Derived.FnLit
import Derived.WalkMore
import Derived.Deep.LoopGhost
import Derived.RegionTactic
import Derived.Deep.AppendLies
namespace Go.Proofs.Ytjedlldmmnacbaa
open Go.RowKit
set_option linter.unusedVariables false
set_option linter.unusedSimpArgs false
set_option maxRecDepth 100000
theorem ERow.cells' {w w' : World} {g : Nat} {A : Option Addr} {n : Nat} {es : Nat → Iib} (R : ERow w A n es) (hg : w.heap.size = g) (hB : Below g w w') (k : Nat) (hk : k < n) : ∃ ad : Addr, A = some ad ∧ ad.block < w'.heap.size ∧ w'.cell? (ad.add (k * 3)) = some (.int .i64 (es k).a) ∧
    w'.cell? ⟨(ad.add (k * 3)).block, (ad.add (k * 3)).off + 1, none⟩ = some (.int .u8 (es k).b) ∧ w'.cell? ⟨(ad.add (k * 3)).block, (ad.add (k * 3)).off + 2, none⟩ = some (.bool (es k).c) := by
  subst hg
  exact ERow.cells (FRow.keep R hB) k hk
set_option maxHeartbeats 2000000 in
theorem at_any {w : World} {A : Option Addr} {n c : Nat} {es : Nat → Iib} (R : ERow w A n es) (hn : n ≤ 9223372036854775807) (l t : Int) :
    Calls Try.prog 15 #[.slice A n c, .int .u8 l, .int .i64 t] w fun e w' => e = .returned (.bool (upTo es (pass es n t 0) l)) ∧ Below w.heap.size w w' := by
  have HR := Lib.hid R
  clear R
  obtain ⟨r, hr⟩ : ∃ r, upTo es (pass es n t 0) l = r := ⟨_, rfl⟩
  rw [hr]
  have HC := Lib.hid hr
  clear hr
  go_enter Try.func15, Try.ntmps15
  go_wp2_with fail
  go_step3
  go_wp2_with fail
  go_step3
  go_wp2_with fail
  generalize hgg : w.heap.size = g at *
  have HGG := Lib.hid hgg
  clear hgg
  go_loopw [7, 12] (fun u i wr => ∃ k : Nat, k ≤ n ∧ i = .int .i64 k ∧ u = .bool (upTo es k l) ∧ (∀ j, j < k → (es j).a ≤ t) ∧ Below g w wr) (fun _ i _ => n - (intOf i).toNat)
  case atStart => exact ⟨0, by omega, rfl, rfl, fun j hj => absurd hj (by omega), by rw [← HGG.out]; exact Below.refl _ _⟩
  case round =>
    obtain ⟨k, hk, rfl, rfl, hok, hB⟩ := hrel
    have zB := hB.size
    rw [HGG.out] at zB
    have hpk : pass es n t 0 = pass es n t k := by
      have := pass_run (es := es) (n := n) (t := t) (s := 0) k (fun i hi => ⟨by omega, by rw [Nat.zero_add]; exact hok i hi⟩)
      rwa [Nat.zero_add] at this
    have HPK := Lib.hid hpk
    clear hpk
    obtain ⟨u, hu⟩ : ∃ u, upTo es k l = u := ⟨_, rfl⟩
    have HU := Lib.hid hu
    rw [hu]
    clear hu
    by_cases hlt : k < n
    · obtain ⟨ad, rfl, hl, d0, d1, d2⟩ := HR.out.cells' HGG.out hB k hlt
      obtain ⟨x, hx⟩ : ∃ x, (es k).a = x := ⟨_, rfl⟩
      obtain ⟨y, hy⟩ : ∃ y, (es k).b = y := ⟨_, rfl⟩
      obtain ⟨z, hz⟩ : ∃ z, (es k).c = z := ⟨_, rfl⟩
      rw [hx] at d0
      rw [hy] at d1
      rw [hz] at d2
      have HX := Lib.hid hx
      have HY := Lib.hid hy
      have HZ := Lib.hid hz
      have HB := Lib.hid hB
      have HOK := Lib.hid hok
      clear hx hy hz hB hok
      by_cases h1 : t < x
      · have e : r = u := by rw [← HC.out, HPK.out, pass_stop (.inr (by rw [HX.out]; exact h1)), HU.out]
        subst e
        go_wp2_with fail
        (try rw [Exit.noGoto_ret])
        go_ret
        exact ⟨rfl, by rw [HGG.out]; exact HB.out.alloc zB _⟩
      · have hx2 : x ≤ t := by omega
        by_cases h2 : y = l
        · have e2 : upTo es (k + 1) l = z := by simp only [upTo]; rw [HY.out, if_pos h2, HZ.out]
          have E2 := Lib.hid e2
          have t2 : (y == l) = true := by simpa using h2
          clear e2
          go_wp2_with fail
          go_roundw
          case rel =>
            refine ⟨k + 1, by omega, by go_num, by rw [E2.out], fun j hj => ?_, HB.out.alloc zB _⟩
            by_cases e : j = k
            · subst e; rw [HX.out]; exact hx2
            · exact HOK.out j (by omega)
          case measure => simp [intOf]; omega
        · have e2 : upTo es (k + 1) l = u := by simp only [upTo]; rw [HY.out, if_neg h2, HU.out]
          have E2 := Lib.hid e2
          have t2 : (y == l) = false := by simpa using h2
          clear e2
          go_wp2_with fail
          go_roundw
          case rel =>
            refine ⟨k + 1, by omega, by go_num, by rw [E2.out], fun j hj => ?_, HB.out.alloc zB _⟩
            by_cases e : j = k
            · subst e; rw [HX.out]; exact hx2
            · exact HOK.out j (by omega)
          case measure => simp [intOf]; omega
    · obtain rfl : k = n := by omega
      have e : r = u := by rw [← HC.out, HPK.out, pass_stop (.inl (Nat.le_refl _)), HU.out]
      subst e
      have HB := Lib.hid hB
      clear hB hok
      go_wp2_with fail
      (try rw [Exit.noGoto_ret])
      go_ret
      exact ⟨rfl, by rw [HGG.out]; exact HB.out⟩
set_option maxHeartbeats 2000000 in
theorem rat_any {w : World} {A : Option Addr} {n c : Nat} {es : Nat → Iib} (R : ERow w A n es) (hn : n ≤ 9223372036854775807) (l t : Int) :
    Calls Try.prog 16 #[.slice A n c, .int .u8 l, .int .i64 t] w fun e w' => e = .returned (.bool (upTo es (pass es n t 0) l)) ∧ w = w' := by
  have HR := Lib.hid R
  clear R
  obtain ⟨r, hr⟩ : ∃ r, upTo es (pass es n t 0) l = r := ⟨_, rfl⟩
  rw [hr]
  have HC := Lib.hid hr
  clear hr
  go_enter Try.func16, Try.ntmps16
  go_wp2_with fail
  go_loop [7, 8] (fun u i => ∃ k : Nat, k ≤ n ∧ i = .int .i64 k ∧ u = .bool (upTo es k l) ∧ (∀ j, j < k → (es j).a ≤ t)) (fun _ i => n - (intOf i).toNat)
  case atStart => exact ⟨0, by omega, rfl, rfl, fun j hj => absurd hj (by omega)⟩
  case round =>
    obtain ⟨k, hk, rfl, rfl, hok⟩ := hrel
    have hpk : pass es n t 0 = pass es n t k := by
      have := pass_run (es := es) (n := n) (t := t) (s := 0) k (fun i hi => ⟨by omega, by rw [Nat.zero_add]; exact hok i hi⟩)
      rwa [Nat.zero_add] at this
    have HPK := Lib.hid hpk
    clear hpk
    obtain ⟨u, hu⟩ : ∃ u, upTo es k l = u := ⟨_, rfl⟩
    have HU := Lib.hid hu
    rw [hu]
    clear hu
    by_cases hlt : k < n
    · obtain ⟨ad, rfl, hl, d0, d1, d2⟩ := HR.out.cells k hlt
      obtain ⟨x, hx⟩ : ∃ x, (es k).a = x := ⟨_, rfl⟩
      obtain ⟨y, hy⟩ : ∃ y, (es k).b = y := ⟨_, rfl⟩
      obtain ⟨z, hz⟩ : ∃ z, (es k).c = z := ⟨_, rfl⟩
      rw [hx] at d0
      rw [hy] at d1
      rw [hz] at d2
      have HX := Lib.hid hx
      have HY := Lib.hid hy
      have HZ := Lib.hid hz
      have HOK := Lib.hid hok
      have i0 : (0 : Int) ≤ (k : Int) := by omega
      have i2 : (k : Int) < n := by omega
      clear hx hy hz hok
      by_cases h1 : t < x
      · have e : r = u := by rw [← HC.out, HPK.out, pass_stop (.inr (by rw [HX.out]; exact h1)), HU.out]
        subst e
        go_wp2_with fail
        go_ret
        exact ⟨rfl, rfl⟩
      · have hx2 : x ≤ t := by omega
        by_cases h2 : y = l
        · have e2 : upTo es (k + 1) l = z := by simp only [upTo]; rw [HY.out, if_pos h2, HZ.out]
          have E2 := Lib.hid e2
          have t2 : (y == l) = true := by simpa using h2
          clear e2
          go_wp2_with fail
          go_round
          case rel =>
            refine ⟨k + 1, by omega, by go_num, by rw [E2.out], fun j hj => ?_⟩
            by_cases e : j = k
            · subst e; rw [HX.out]; exact hx2
            · exact HOK.out j (by omega)
          case measure => simp [intOf]; omega
        · have e2 : upTo es (k + 1) l = u := by simp only [upTo]; rw [HY.out, if_neg h2, HU.out]
          have E2 := Lib.hid e2
          have t2 : (y == l) = false := by simpa using h2
          clear e2
          go_wp2_with fail
          go_round
          case rel =>
            refine ⟨k + 1, by omega, by go_num, by rw [E2.out], fun j hj => ?_⟩
            by_cases e : j = k
            · subst e; rw [HX.out]; exact hx2
            · exact HOK.out j (by omega)
          case measure => simp [intOf]; omega
    · obtain rfl : k = n := by omega
      have e : r = u := by rw [← HC.out, HPK.out, pass_stop (.inl (Nat.le_refl _)), HU.out]
      subst e
      go_wp2_with fail
      go_ret
      exact ⟨rfl, rfl⟩
theorem edge_info : (Try.prog.info? 65).map (fun i => (i.zero, i.size, i.bytes)) = some (some (.agg #[.int .i64 0, .int .u8 0, .bool false]), 3, 16) := by kernel_rfl
def EClR (n : Nat) (es : Nat → Iib) (w : World) (e : Ending) (w' : World) : Prop :=
  ∃ A cap, e = .returned (.slice A n cap) ∧ n ≤ cap ∧ cap ≤ maxLen ∧ ERow w' A n es ∧ Typed w' A 65 ∧ (A = none → n = 0 ∧ cap = 0) ∧ Below w.heap.size w w'
theorem eclone_any {w : World} {A : Option Addr} {n c : Nat} {es : Nat → Iib} (hA : A = none → n = 0 ∧ c = 0) (R : ERow w A n es) (hn : n ≤ 1000) :
    Calls Try.prog 36 #[.slice A n c] w (EClR n es w) := by
  cases A with
  | none =>
    obtain ⟨rfl, rfl⟩ := hA rfl
    have hnil := fun W => Lib.run_eql_slice_nil (P := Try.prog) W 22 65 none 0 0 0 0 Try.underlying22
    clear R hA
    go_enter Try.func36, Try.ntmps36
    go_wp2
    go_ret
    exact ⟨none, 0, rfl, Nat.le_refl _, by unfold maxLen; omega, fun i hi => absurd hi (by omega), Typed.none, fun _ => ⟨rfl, rfl⟩, Below.refl _ _⟩
  | some ad =>
    have hnil := fun W => Lib.run_eql_slice_nil (P := Try.prog) W 22 65 (some ad) n c 0 0 Try.underlying22
    obtain ⟨A, cap, w', hrun, h1, h2, h3, h4, h5, h6⟩ := clone_frow (P := Try.prog) (ty := 22) (c := c) Try.underlying22 edge_info rfl (by omega)
      (fun i j _ hj => by rcases j with _ | _ | _ | j <;> first | rfl | omega) (by omega) (by unfold maxLen; omega) R
    have H3 := Lib.hid h3
    have H5 := Lib.hid h5
    clear h3 h5 R hA
    go_enter Try.func36, Try.ntmps36
    go_wp2_with (at_builtin; refine wpList_append_run rfl (.tmp 5) (.tmp 6) 22 rfl rfl rfl hrun ?_)
    go_ret
    exact ⟨A, cap, rfl, h1, h2, H3.out, h4, H5.out, h6⟩
end Go.Proofs.Ytjedlldmmnacbaa
