/-
  Texts of these proofs, one behind the other: Hard3, Hard7, Hard6.
-/
import Derived.Test.YtleofglnlfpoeaaGreatKBP20
import Derived.Test.YtleofglnlfpoeaaGreatKBP10
namespace Go.Proofs.YtleofglnlfpoeaaGreat
open Go.RowKit
set_option linter.unusedVariables false
set_option linter.unusedSimpArgs false
set_option maxRecDepth 100000
def Hp.ch (d : Hd) (x : Hp) (m : Bool) : Int := chI x.q.d x.q.due (upTo d.es x.s 0) x.ro (upTo d.es x.s 2) (upTo d.es x.s 3) m
def Hp.en (x : Hp) (k : Int) : Hp := if k = 2 then { x with ro := false } else if k = 1 then { x with tm := x.tm.wr 1 0, q := (x.q.wr 2 0).wr 3 0 } else x
theorem hup_v {X : Nat → Value} {w : World} {g n : Nat} {es : Nat → Iib} {s : Nat} {r : Bool} (h : LNH X w g n es s r) (j : Nat) (hj : j < 4) {k : Int} (hk : (j : Int) = k) {u : Bool} (e : upTo es s k = u) :
    Calls Tryz.prog 120 #[.pointer (some ⟨g, 4, none⟩), .int .u8 k] w fun e w' => e = .returned (.bool u) ∧ w = w' := by
  have := hup_any h j (by omega)
  unfold upV at this
  rw [if_pos hj, hk, e] at this
  exact this
theorem hrose_v {X : Nat → Value} {w : World} {g n : Nat} {es : Nat → Iib} {s : Nat} {r : Bool} (h : LNH X w g n es s r) {u : Bool} (e : r = u) :
    Calls Tryz.prog 121 #[.pointer (some ⟨g, 4, none⟩)] w fun e w' => e = .returned (.bool u) ∧ w = w' := e ▸ hrose_any h
theorem qchoose_iv {w : World} {g : Nat} {T : TypeId} {cs : Array Value} {o : Nat} {s : Iq} (h : IQ w g T cs o s) {u0 u1 u2 u3 m : Bool} {x : Int} (e : chI s.d s.due u0 u1 u2 u3 m = x) :
    Calls Tryz.prog 119 #[.pointer (some ⟨g, o, none⟩), .agg #[.bool u0, .bool u1, .bool u2, .bool u3], .bool m] w fun e w' => e = .returned (.int .u8 x) ∧ Below w.heap.size w w' := e ▸ qchoose_any h u0 u1 u2 u3 m
section
variable {w : World} {g : Nat} {d : Hd} {b : Hb} {x : Hp}
set_option maxHeartbeats 4000000 in
theorem hchoose_any (h : HP w g d b x) (m : Bool) :
    Calls Tryz.prog 74 #[.pointer (some ⟨g, 0, none⟩), .bool m] w fun e w' => e = .returned (.int .u8 (x.ch d m)) ∧ Below w.heap.size w w' := by
  have H := Lib.hid (h.kp0 (Kp.refl _ _).drew)
  obtain ⟨u0, h0⟩ : ∃ u, upTo d.es x.s 0 = u := ⟨_, rfl⟩
  obtain ⟨u2, h2⟩ : ∃ u, upTo d.es x.s 2 = u := ⟨_, rfl⟩
  obtain ⟨u3, h3⟩ : ∃ u, upTo d.es x.s 3 = u := ⟨_, rfl⟩
  obtain ⟨ro, hr⟩ : ∃ u, x.ro = u := ⟨_, rfl⟩
  obtain ⟨v, hv⟩ : ∃ v, x.ch d m = v := ⟨_, rfl⟩
  have hv2 : chI x.q.d x.q.due u0 ro u2 u3 m = v := by rw [← hv, ← h0, ← h2, ← h3, ← hr]; rfl
  rw [hv]
  have H0 := Lib.hid h0
  have H2 := Lib.hid h2
  have H3 := Lib.hid h3
  have HR := Lib.hid hr
  have HV := Lib.hid hv2
  clear h h0 h2 h3 hr hv hv2
  go_enter Tryz.func74, Tryz.ntmps74
  go_wp2_with fail
  refine rg_begin (S := fun w' => True) 23 #[false, false, false, false, false, false, false, false, false, false, false, false, false, false, false, false, false, false, false, false, false, false, false] (by kernel_rfl) (by kernel_rfl) (by kernel_rfl) ?_ (fun hHeld => ?_)
  · exact trivial
  refine rgt 0 (some 7) (v := ?_) rfl ?_ ?_
  rotate_left 1
  · (intro wS hSw; (try dsimp only at hSw); go_simp; try with_reducible rfl)
  refine rgt 1 (some 8) (v := ?_) rfl ?_ ?_
  rotate_left 1
  · (intro wS hSw; (try dsimp only at hSw); go_simp; try with_reducible rfl)
  refine rgt 2 (some 9) (v := ?_) rfl ?_ ?_
  rotate_left 1
  · (intro wS hSw; (try dsimp only at hSw); go_simp; try with_reducible rfl)
  refine rgt 3 (some 10) (v := ?_) rfl ?_ ?_
  rotate_left 1
  · (intro wS hSw; (try dsimp only at hSw); go_simp; try with_reducible rfl)
  refine rgt 4 (some 11) (v := ?_) rfl ?_ ?_
  rotate_left 1
  · (intro wS hSw; (try dsimp only at hSw); go_simp; try with_reducible rfl)
  refine rgt 5 (some 12) (v := ?_) rfl ?_ ?_
  rotate_left 1
  · (intro wS hSw; (try dsimp only at hSw); go_simp; try with_reducible rfl)
  refine rgt 7 (some 14) (v := ?_) rfl ?_ ?_
  rotate_left 1
  · (intro wS hSw; (try dsimp only at hSw); go_simp; try with_reducible rfl)
  refine rgt 8 (some 15) (v := ?_) rfl ?_ ?_
  rotate_left 1
  · (intro wS hSw; (try dsimp only at hSw); go_simp; try with_reducible rfl)
  refine rgt 9 (some 16) (v := ?_) rfl ?_ ?_
  rotate_left 1
  · (intro wS hSw; (try dsimp only at hSw); go_simp; try with_reducible rfl)
  refine rgt 11 (some 18) (v := ?_) rfl ?_ ?_
  rotate_left 1
  · (intro wS hSw; (try dsimp only at hSw); go_simp; try with_reducible rfl)
  refine rgt 12 (some 19) (v := ?_) rfl ?_ ?_
  rotate_left 1
  · (intro wS hSw; (try dsimp only at hSw); go_simp; try with_reducible rfl)
  refine rgt 13 (some 20) (v := ?_) rfl ?_ ?_
  rotate_left 1
  · (intro wS hSw; (try dsimp only at hSw); go_simp; try with_reducible rfl)
  refine rgt 15 (some 22) (v := ?_) rfl ?_ ?_
  rotate_left 1
  · (intro wS hSw; (try dsimp only at hSw); go_simp; try with_reducible rfl)
  refine rgt 16 (some 23) (v := ?_) rfl ?_ ?_
  rotate_left 1
  · (intro wS hSw; (try dsimp only at hSw); go_simp; try with_reducible rfl)
  refine rgt 17 (some 24) (v := ?_) rfl ?_ ?_
  rotate_left 1
  · (intro wS hSw; (try dsimp only at hSw); go_simp; try with_reducible rfl)
  refine rgt 20 (some 27) (v := ?_) rfl ?_ ?_
  rotate_left 1
  · (intro wS hSw; (try dsimp only at hSw); go_simp; try with_reducible rfl)
  try simp only [Act.put, List.setIfInBounds_toArray, List.set_cons_zero, List.set_cons_succ]
  refine rg_next (i := 6) (l := #[true, true, true, true, true, true, true, true, true, true, false, true, true, true, false, true, true, true, false, false, true, false, false]) (fuel := 6) (by kernel_rfl) rfl (by kernel_rfl) (by kernel_rfl) (fun K hK => ?_)
  go_simp
  (go_at_call 120)
  refine (hup_v H.out.lns.1 0 (by decide) rfl H0.out).mono ?_
  rintro e w' ⟨rfl, rfl⟩
  first | (refine hK.out _ _ ?_ (fun hHeld => ?_)) | (go_wp2_with fail; refine hK.out _ _ ?_ (fun hHeld => ?_))
  · (try dsimp only); try exact trivial
  clear hK K
  try simp only [Act.put, List.setIfInBounds_toArray, List.set_cons_zero, List.set_cons_succ]
  refine rg_next (i := 10) (l := #[true, true, true, true, true, true, true, true, true, true, true, true, true, true, false, true, true, true, false, false, true, false, false]) (fuel := 5) (by kernel_rfl) rfl (by kernel_rfl) (by kernel_rfl) (fun K hK => ?_)
  go_simp
  (go_at_call 121)
  refine (hrose_v H.out.lns.1 HR.out).mono ?_
  rintro e w' ⟨rfl, rfl⟩
  first | (refine hK.out _ _ ?_ (fun hHeld => ?_)) | (go_wp2_with fail; refine hK.out _ _ ?_ (fun hHeld => ?_))
  · (try dsimp only); try exact trivial
  clear hK K
  try simp only [Act.put, List.setIfInBounds_toArray, List.set_cons_zero, List.set_cons_succ]
  refine rg_next (i := 14) (l := #[true, true, true, true, true, true, true, true, true, true, true, true, true, true, true, true, true, true, false, false, true, false, false]) (fuel := 4) (by kernel_rfl) rfl (by kernel_rfl) (by kernel_rfl) (fun K hK => ?_)
  go_simp
  (go_at_call 120)
  refine (hup_v H.out.lns.1 2 (by decide) rfl H2.out).mono ?_
  rintro e w' ⟨rfl, rfl⟩
  first | (refine hK.out _ _ ?_ (fun hHeld => ?_)) | (go_wp2_with fail; refine hK.out _ _ ?_ (fun hHeld => ?_))
  · (try dsimp only); try exact trivial
  clear hK K
  try simp only [Act.put, List.setIfInBounds_toArray, List.set_cons_zero, List.set_cons_succ]
  refine rg_next (i := 18) (l := #[true, true, true, true, true, true, true, true, true, true, true, true, true, true, true, true, true, true, true, false, true, false, false]) (fuel := 3) (by kernel_rfl) rfl (by kernel_rfl) (by kernel_rfl) (fun K hK => ?_)
  go_simp
  (go_at_call 120)
  refine (hup_v H.out.lns.1 3 (by decide) rfl H3.out).mono ?_
  rintro e w' ⟨rfl, rfl⟩
  first | (refine hK.out _ _ ?_ (fun hHeld => ?_)) | (go_wp2_with fail; refine hK.out _ _ ?_ (fun hHeld => ?_))
  · (try dsimp only); try exact trivial
  clear hK K
  refine rgt 19 (some 26) (v := ?_) rfl ?_ ?_
  rotate_left 1
  · (intro wS hSw; (try dsimp only at hSw); go_simp; try with_reducible rfl)
  try simp only [Act.put, List.setIfInBounds_toArray, List.set_cons_zero, List.set_cons_succ]
  refine rg_next (i := 21) (l := #[true, true, true, true, true, true, true, true, true, true, true, true, true, true, true, true, true, true, true, true, true, true, false]) (fuel := 1) (by kernel_rfl) rfl (by kernel_rfl) (by kernel_rfl) (fun K hK => ?_)
  go_simp
  (go_at_call 119)
  obtain ⟨cs, q1, _⟩ := H.out.irq
  refine (qchoose_iv q1 HV.out).mono ?_
  rintro e w1 ⟨rfl, b1⟩
  have B1 : Hid (Below w.heap.size w w1) := Lib.hid ((Below.refl _ w).drew.trans b1)
  clear b1 q1
  first | (refine hK.out _ _ ?_ (fun hHeld => ?_)) | (go_wp2_with fail; refine hK.out _ _ ?_ (fun hHeld => ?_))
  · (try dsimp only); try exact trivial
  clear hK K
  refine rgt 22 (some 4) (v := ?_) rfl ?_ ?_
  rotate_left 1
  · (intro wS hSw; (try dsimp only at hSw); go_simp; try with_reducible rfl)
  try simp only [Act.put, List.setIfInBounds_toArray, List.set_cons_zero, List.set_cons_succ]
  refine wpAnyH_done (by kernel_rfl) ?_ _
  go_wp2_with fail
  go_ret
  exact ⟨rfl, B1.out⟩
theorem hentered_any (h : HP w g d b x) (k : Int) (k0 : 0 ≤ k) (k1 : k ≤ 255) :
    Calls Tryz.prog 68 #[.pointer (some ⟨g, 0, none⟩), .int .u8 k] w (HpR (.tuple #[]) g d b (x.en k) [g] w) := by
  have H := Lib.hid h
  clear h
  by_cases h2 : k = 2
  · subst h2
    have e : x.en 2 = { x with ro := false } := by unfold Hp.en; rw [if_pos rfl]
    rw [e]
    clear e
    go_enter Tryz.func68, Tryz.ntmps68
    go_wp2_with fail
    refine (htake_any H.out.lns.1).mono ?_
    rintro e w1 ⟨rfl, y1, y2⟩
    have Y := Lib.hid (H.out.lns.2 _ _ _ y1 y2)
    have K := Lib.hid y2
    clear y1 y2 H
    go_wp2
    first | go_end0 | refine bodyPost_ret (results_none rfl _ _ _) rfl ?_
    exact ⟨rfl, Y.out, K.out⟩
  · have n2 : (k == 2) = false := by simpa using h2
    by_cases h1 : k = 1
    · subst h1
      have e : x.en 1 = { x with tm := x.tm.wr 1 0, q := (x.q.wr 2 0).wr 3 0 } := by unfold Hp.en; rw [if_neg (by decide), if_pos rfl]
      rw [e]
      clear e h2 n2
      go_enter Tryz.func68, Tryz.ntmps68
      go_wp2_with fail
      obtain ⟨cs, q1, q2⟩ := H.out.tmr
      refine (twrite_any q1 1 0 (by decide) (by decide)).mono ?_
      rintro e w1 ⟨rfl, y1, y2⟩
      have Y := Lib.hid (q2 _ _ y1 y2)
      have K := Lib.hid y2
      clear y1 y2 H q1 q2 cs
      go_wp2_with fail
      obtain ⟨cs, q1, q2⟩ := Y.out.irq
      refine (qwrite_any q1 2 0 (by decide) (by decide)).mono ?_
      rintro e w2 ⟨rfl, y1, y2⟩
      have Y2 := Lib.hid (q2 _ _ y1 y2)
      have K2 := Lib.hid (K.out.trans y2 (by simp))
      clear y1 y2 Y K q1 q2 cs
      go_wp2_with fail
      obtain ⟨cs, q1, q2⟩ := Y2.out.irq
      refine (qwrite_any q1 3 0 (by decide) (by decide)).mono ?_
      rintro e w3 ⟨rfl, y1, y2⟩
      have Y3 := Lib.hid (q2 _ _ y1 y2)
      have K3 := Lib.hid (K2.out.trans y2 (by simp))
      clear y1 y2 Y2 K2 q1 q2 cs
      go_wp2
      first | go_end0 | refine bodyPost_ret (results_none rfl _ _ _) rfl ?_
      exact ⟨rfl, Y3.out, K3.out⟩
    · have n1 : (k == 1) = false := by simpa using h1
      have e : x.en k = x := by unfold Hp.en; rw [if_neg h2, if_neg h1]
      rw [e]
      clear e
      go_enter Tryz.func68, Tryz.ntmps68
      go_wp2
      first | go_end0 | refine bodyPost_ret (results_none rfl _ _ _) rfl ?_
      exact ⟨rfl, H.out, Kp.refl _ _⟩
end
end Go.Proofs.YtleofglnlfpoeaaGreat
namespace Go.Proofs.YtleofglnlfpoeaaGreat
open Go.RowKit
set_option linter.unusedVariables false
set_option linter.unusedSimpArgs false
set_option maxRecDepth 100000
def HCloneR (g : Nat) (d : Hd) (b : Hb) (x : Hp) (w : World) (e : Ending) (w' : World) : Prop :=
  ∃ g2 b2, e = .returned (.pointer (some ⟨g2, 0, none⟩)) ∧ (w.heap.size ≤ g2 ∧ w.heap.size ≤ b2.v ∧ w.heap.size ≤ b2.c ∧ w.heap.size ≤ b2.p) ∧ HP w' g2 d b2 x ∧ HP w' g d b x ∧ Kp [b.v, b.c, b.p] w w'
section
variable {w : World} {g : Nat} {d : Hd} {b : Hb} {x : Hp}
theorem Blk.kpn {w w' : World} {k : Nat} {t : TypeId} {cs : Array Value} {L : List Nat} (h : Blk w k t cs) (kp : Kp L w w') {B : Nat} (hB : B ≤ k) (hL : ∀ y ∈ L, y < B) : Blk w' k t cs := h.kp kp (fun e => by have := hL _ e; omega)
theorem Box.kpn {w w' : World} {cb n : Nat} {z : Nat → Int} {L : List Nat} (h : Box w cb n z) (kp : Kp L w w') (hT : ∀ x ∈ L, ∃ t cs, Blk w x t cs ∧ 5 ≠ t) {B : Nat} (hB : B ≤ cb) (hL : ∀ y ∈ L, y < B) : Box w' cb n z := h.kp kp hT (fun e => by have := hL _ e; omega)
theorem HP.boxOff (h : HP w g d b x) : (∃ t cs, Blk w b.v t cs ∧ 5 ≠ t ∧ 154 ≠ t) ∧ (∃ t cs, Blk w b.c t cs ∧ 5 ≠ t ∧ 154 ≠ t) ∧ (∃ t cs, Blk w b.p t cs ∧ 5 ≠ t ∧ 154 ≠ t) := by
  obtain ⟨A, c, hb, ho⟩ := h
  obtain ⟨v1, h1, _⟩ := ho.v
  obtain ⟨v2, h2, _⟩ := ho.c
  obtain ⟨v3, h3, _⟩ := ho.p
  exact ⟨⟨_, _, h1, by decide, by decide⟩, ⟨_, _, h2, by decide, by decide⟩, ⟨_, _, h3, by decide, by decide⟩⟩
set_option maxHeartbeats 16000000 in
theorem hclone_page (h : HP w g d b x) (hd : d.np ≤ 140737488355328 ∧ d.nv ≤ 140737488355328 ∧ d.nc ≤ 140737488355328) :
    Calls Tryz.prog 56 #[.pointer (some ⟨g, 0, none⟩)] w (HCloneR g d b x w) := by
  obtain ⟨B, hB⟩ : ∃ B, w.heap.size = B := ⟨_, rfl⟩
  have H := Lib.hid (h.kp0 (Kp.refl _ _).drew)
  have c0 := h.nw.1
  have KK : Hid (Kp [b.v, b.c, b.p] w w.drew) := Lib.hid (Kp.refl _ _).drew
  have hz : B ≤ w.drew.heap.size := by rw [← hB]; exact Nat.le_refl _
  have hl := h.lt
  rw [hB] at hl
  obtain ⟨hlg, hlv, hlc, hlp⟩ := hl
  have HBB := Lib.hid hB
  clear h hB
  go_enter Tryz.func56, Tryz.ntmps56
  go_wp2_with fail
  refine rg_begin (S := fun w' => w'.cell? ⟨g, 22, none⟩ = some (.int .i64 x.now)) 50 #[false, false, false, false, false, false, false, false, false, false, false, false, false, false, false, false, false, false, false, false, false, false, false, false, false, false, false, false, false, false, false, false, false, false, false, false, false, false, false, false, false, false, false, false, false, false, false, false, false, false] (by kernel_rfl) (by kernel_rfl) (by kernel_rfl) ?_ (fun hHeld => ?_)
  · exact c0
  clear c0
  generalize w.drew = w0 at *
  refine rgt 0 (some 5) (v := ?_) rfl ?_ ?_
  rotate_left 1
  · (intro wS hSw; (try dsimp only at hSw); go_simp; try with_reducible rfl)
  refine rgt 1 (some 6) (v := ?_) rfl ?_ ?_
  rotate_left 1
  · (intro wS hSw; (try dsimp only at hSw); go_simp; try with_reducible rfl)
  refine rgt 2 (some 7) (v := ?_) rfl ?_ ?_
  rotate_left 1
  · (intro wS hSw; (try dsimp only at hSw); go_simp; try with_reducible rfl)
  refine rgt 6 (some 11) (v := ?_) rfl ?_ ?_
  rotate_left 1
  · (intro wS hSw; (try dsimp only at hSw); go_simp; try with_reducible rfl)
  refine rgt 7 (some 12) (v := ?_) rfl ?_ ?_
  rotate_left 1
  · (intro wS hSw; (try dsimp only at hSw); go_simp; try with_reducible rfl)
  refine rgt 8 (some 13) (v := ?_) rfl ?_ ?_
  rotate_left 1
  · (intro wS hSw; (try dsimp only at hSw); go_simp; try with_reducible rfl)
  refine rgt 12 (some 17) (v := ?_) rfl ?_ ?_
  rotate_left 1
  · (intro wS hSw; (try dsimp only at hSw); go_simp; try with_reducible rfl)
  refine rgt 13 (some 18) (v := ?_) rfl ?_ ?_
  rotate_left 1
  · (intro wS hSw; (try dsimp only at hSw); go_simp; try with_reducible rfl)
  refine rgt 14 (some 19) (v := ?_) rfl ?_ ?_
  rotate_left 1
  · (intro wS hSw; (try dsimp only at hSw); go_simp; try with_reducible rfl)
  refine rgt 19 (some 24) (v := ?_) rfl ?_ ?_
  rotate_left 1
  · (intro wS hSw; (try dsimp only at hSw); go_simp; try with_reducible rfl)
  refine rgt 20 (some 25) (v := ?_) rfl ?_ ?_
  rotate_left 1
  · (intro wS hSw; (try dsimp only at hSw); go_simp; try with_reducible rfl)
  refine rgt 21 (some 26) (v := ?_) rfl ?_ ?_
  rotate_left 1
  · (intro wS hSw; (try dsimp only at hSw); go_simp; try with_reducible rfl)
  refine rgt 25 (some 30) (v := ?_) rfl ?_ ?_
  rotate_left 1
  · (intro wS hSw; (try dsimp only at hSw); go_simp; try with_reducible rfl)
  refine rgt 26 (some 31) (v := ?_) rfl ?_ ?_
  rotate_left 1
  · (intro wS hSw; (try dsimp only at hSw); go_simp; try with_reducible rfl)
  refine rgt 27 (some 32) (v := ?_) rfl ?_ ?_
  rotate_left 1
  · (intro wS hSw; (try dsimp only at hSw); go_simp; try with_reducible rfl)
  refine rgt 31 (some 36) (v := ?_) rfl ?_ ?_
  rotate_left 1
  · (intro wS hSw; (try dsimp only at hSw); go_simp; try with_reducible rfl)
  refine rgt 32 (some 37) (v := ?_) rfl ?_ ?_
  rotate_left 1
  · (intro wS hSw; (try dsimp only at hSw); go_simp; try with_reducible rfl)
  refine rgt 33 (some 38) (v := ?_) rfl ?_ ?_
  rotate_left 1
  · (intro wS hSw; (try dsimp only at hSw); go_simp; try with_reducible rfl)
  refine rgt 37 (some 42) (v := ?_) rfl ?_ ?_
  rotate_left 1
  · (intro wS hSw; (try dsimp only at hSw); go_simp; try with_reducible rfl)
  refine rgt 38 (some 43) (v := ?_) rfl ?_ ?_
  rotate_left 1
  · (intro wS hSw; (try dsimp only at hSw); go_simp; try with_reducible rfl)
  refine rgt 39 (some 44) (v := ?_) rfl ?_ ?_
  rotate_left 1
  · (intro wS hSw; (try dsimp only at hSw); go_simp; try with_reducible rfl)
  refine rgt 43 (some 48) (v := ?_) rfl ?_ ?_
  rotate_left 1
  · (intro wS hSw; (try dsimp only at hSw); go_simp; try with_reducible rfl)
  refine rgt 44 (some 49) (v := ?_) rfl ?_ ?_
  rotate_left 1
  · (intro wS hSw; (try dsimp only at hSw); go_simp; try with_reducible rfl)
  refine rgt 45 (some 50) (v := ?_) rfl ?_ ?_
  rotate_left 1
  · (intro wS hSw; (try dsimp only at hSw); go_simp; try with_reducible rfl)
  refine rgt 46 (some 51) (v := ?_) rfl ?_ ?_
  rotate_left 1
  · (intro wS hSw; (try dsimp only at hSw); go_simp; try with_reducible rfl)
  try simp only [Act.put, List.setIfInBounds_toArray, List.set_cons_zero, List.set_cons_succ]
  refine rg_next (i := 3) (l := #[true, true, true, true, false, false, true, true, true, false, false, false, true, true, true, false, false, false, false, true, true, true, false, false, false, true, true, true, false, false, false, true, true, true, false, false, false, true, true, true, false, false, false, true, true, true, true, false, false, false]) (fuel := 24) (by kernel_rfl) rfl (by kernel_rfl) (by kernel_rfl) (fun K hK => ?_)
  go_simp
  (go_at_call 96)
  obtain ⟨cs, q1, q2⟩ := H.out.tmr
  refine (tclone_any q1).mono ?_
  rintro e w1 ⟨rfl, y1, b1⟩
  obtain ⟨gt, hgt⟩ : ∃ gt, w0.heap.size = gt := ⟨_, rfl⟩
  have N1 : Hid (Blk w1 gt 75 #[.int .i64 x.tm.gone, .int .u8 x.tm.c, .int .u8 x.tm.r, .bool x.tm.on]) := Lib.hid (hgt ▸ y1.1)
  simp only [hgt]
  have z1 : B ≤ gt := by omega
  have hz1 : gt < w1.heap.size := N1.out.lt
  replace KK := Lib.hid (KK.out.trans (Kp.of_below (L := []) b1) (by simp))
  replace H := Lib.hid (H.out.keep b1)
  clear q1 q2 cs y1 b1 hgt hz
  first | (refine hK.out _ _ ?_ (fun hHeld => ?_)) | (go_wp2_with fail; refine hK.out _ _ ?_ (fun hHeld => ?_))
  · (try dsimp only); exact H.out.nw.1
  clear hK K
  refine rgt 4 (some 9) (v := ?_) rfl ?_ ?_
  rotate_left 1
  · (intro wS hSw; (try dsimp only at hSw); go_simp; try with_reducible rfl)
  try simp only [Act.put, List.setIfInBounds_toArray, List.set_cons_zero, List.set_cons_succ]
  refine rg_more (S' := fun w' => Blk w' gt 75 #[.int .i64 x.tm.gone, .int .u8 x.tm.c, .int .u8 x.tm.r, .bool x.tm.on] ∧ w'.cell? ⟨g, 22, none⟩ = some (.int .i64 x.now)) (fun w h => h.2) _ _ _ _ ?_
  clear hHeld
  have hHeld : (fun w' : World => Blk w' gt 75 #[.int .i64 x.tm.gone, .int .u8 x.tm.c, .int .u8 x.tm.r, .bool x.tm.on] ∧ w'.cell? ⟨g, 22, none⟩ = some (.int .i64 x.now)) _ := ⟨N1.out, H.out.nw.1⟩
  refine rgt 5 (some 10) (v := .agg #[.int .i64 x.tm.gone, .int .u8 x.tm.c, .int .u8 x.tm.r, .bool x.tm.on]) rfl ?_ ?_
  · (intro wS hSw; (try dsimp only at hSw); exact exec_load_row 75 (.tmp 9) rfl gt rfl 75 #[.int .i64 x.tm.gone, .int .u8 x.tm.c, .int .u8 x.tm.r, .bool x.tm.on] (0, 0) _ hSw.1 Tryz.underlying75 rfl (by kernel_rfl))
  try simp only [Act.put, List.setIfInBounds_toArray, List.set_cons_zero, List.set_cons_succ]
  refine rg_next (i := 9) (l := #[true, true, true, true, true, true, true, true, true, true, false, false, true, true, true, false, false, false, false, true, true, true, false, false, false, true, true, true, false, false, false, true, true, true, false, false, false, true, true, true, false, false, false, true, true, true, true, false, false, false]) (fuel := 21) (by kernel_rfl) rfl (by kernel_rfl) (by kernel_rfl) (fun K hK => ?_)
  go_simp
  (go_at_call 97)
  refine (hclone_any H.out.lns.1).mono ?_
  rintro e w2 ⟨rfl, ⟨_, A, c, y1, y2⟩, b2⟩
  obtain ⟨gl, hgl⟩ : ∃ gl, w1.heap.size = gl := ⟨_, rfl⟩
  have N2 : Hid (Blk w2 gl 80 #[.slice A d.n c, .int .i64 x.s, .bool (upTo d.es x.s (0 : Nat)), .bool (upTo d.es x.s (1 : Nat)), .bool (upTo d.es x.s (2 : Nat)), .bool (upTo d.es x.s (3 : Nat)), .bool x.ro]) := Lib.hid (hgl ▸ y1)
  have E2 := Lib.hid y2
  simp only [hgl]
  have z2 : B ≤ gl := by omega
  have hz2 : gl < w2.heap.size := N2.out.lt
  replace N1 := Lib.hid (N1.out.kpn (Kp.of_below (L := []) b2) (B := B) (by omega) (by simp))
  replace KK := Lib.hid (KK.out.trans (Kp.of_below (L := []) b2) (by simp))
  replace H := Lib.hid (H.out.keep b2)
  clear y1 y2 b2 hgl hz1
  first | (refine hK.out _ _ ?_ (fun hHeld => ?_)) | (go_wp2_with fail; refine hK.out _ _ ?_ (fun hHeld => ?_))
  · (try dsimp only); exact ⟨N1.out, H.out.nw.1⟩
  clear hK K
  refine rgt 10 (some 15) (v := ?_) rfl ?_ ?_
  rotate_left 1
  · (intro wS hSw; (try dsimp only at hSw); go_simp; try with_reducible rfl)
  try simp only [Act.put, List.setIfInBounds_toArray, List.set_cons_zero, List.set_cons_succ]
  refine rg_more (S' := fun w' => Blk w' gl 80 #[.slice A d.n c, .int .i64 x.s, .bool (upTo d.es x.s (0 : Nat)), .bool (upTo d.es x.s (1 : Nat)), .bool (upTo d.es x.s (2 : Nat)), .bool (upTo d.es x.s (3 : Nat)), .bool x.ro] ∧ Blk w' gt 75 #[.int .i64 x.tm.gone, .int .u8 x.tm.c, .int .u8 x.tm.r, .bool x.tm.on] ∧ w'.cell? ⟨g, 22, none⟩ = some (.int .i64 x.now)) (fun w h => h.2) _ _ _ _ ?_
  clear hHeld
  have hHeld : (fun w' : World => Blk w' gl 80 #[.slice A d.n c, .int .i64 x.s, .bool (upTo d.es x.s (0 : Nat)), .bool (upTo d.es x.s (1 : Nat)), .bool (upTo d.es x.s (2 : Nat)), .bool (upTo d.es x.s (3 : Nat)), .bool x.ro] ∧ Blk w' gt 75 #[.int .i64 x.tm.gone, .int .u8 x.tm.c, .int .u8 x.tm.r, .bool x.tm.on] ∧ w'.cell? ⟨g, 22, none⟩ = some (.int .i64 x.now)) _ := ⟨N2.out, N1.out, H.out.nw.1⟩
  refine rgt 11 (some 16) (v := .agg #[.slice A d.n c, .int .i64 x.s, .bool (upTo d.es x.s (0 : Nat)), .bool (upTo d.es x.s (1 : Nat)), .bool (upTo d.es x.s (2 : Nat)), .bool (upTo d.es x.s (3 : Nat)), .bool x.ro]) rfl ?_ ?_
  · (intro wS hSw; (try dsimp only at hSw); exact exec_load_row 80 (.tmp 15) rfl gl rfl 80 #[.slice A d.n c, .int .i64 x.s, .bool (upTo d.es x.s (0 : Nat)), .bool (upTo d.es x.s (1 : Nat)), .bool (upTo d.es x.s (2 : Nat)), .bool (upTo d.es x.s (3 : Nat)), .bool x.ro] (0, 0) _ hSw.1 Tryz.underlying80 rfl (by kernel_rfl))
  try simp only [Act.put, List.setIfInBounds_toArray, List.set_cons_zero, List.set_cons_succ]
  refine rg_next (i := 15) (l := #[true, true, true, true, true, true, true, true, true, true, true, true, true, true, true, true, false, false, false, true, true, true, false, false, false, true, true, true, false, false, false, true, true, true, false, false, false, true, true, true, false, false, false, true, true, true, true, false, false, false]) (fuel := 18) (by kernel_rfl) rfl (by kernel_rfl) (by kernel_rfl) (fun K hK => ?_)
  go_simp
  (go_at_call 98)
  refine (pvalue_any H.out.lat.1).mono ?_
  rintro e w' ⟨rfl, rfl⟩
  first | (refine hK.out _ _ ?_ (fun hHeld => ?_)) | (go_wp2_with fail; refine hK.out _ _ ?_ (fun hHeld => ?_))
  · (try dsimp only); exact ⟨N2.out, N1.out, H.out.nw.1⟩
  clear hK K
  try simp only [Act.put, List.setIfInBounds_toArray, List.set_cons_zero, List.set_cons_succ]
  refine rg_next (i := 16) (l := #[true, true, true, true, true, true, true, true, true, true, true, true, true, true, true, true, true, false, false, true, true, true, false, false, false, true, true, true, false, false, false, true, true, true, false, false, false, true, true, true, false, false, false, true, true, true, true, false, false, false]) (fuel := 17) (by kernel_rfl) rfl (by kernel_rfl) (by kernel_rfl) (fun K hK => ?_)
  go_simp
  (go_at_call 33)
  refine (lnew_any x.buf w2).mono ?_
  rintro e w3 ⟨rfl, y1⟩
  have b3 : Below w2.heap.size w2 w3 := y1 ▸ (Below.refl _ _).alloc (Nat.le_refl _) _
  obtain ⟨gb, hgb⟩ : ∃ gb, w2.heap.size = gb := ⟨_, rfl⟩
  have N3 : Hid (Blk w3 gb 82 #[.int .u8 x.buf]) := Lib.hid (by rw [y1]; exact Blk.new_ hgb.symm)
  clear y1
  simp only [hgb]
  have z3 : B ≤ gb := by omega
  have hz3 : gb < w3.heap.size := N3.out.lt
  replace N1 := Lib.hid (N1.out.kpn (Kp.of_below (L := []) b3) (B := B) (by omega) (by simp))
  replace N2 := Lib.hid (N2.out.kpn (Kp.of_below (L := []) b3) (B := B) (by omega) (by simp))
  replace E2 := Lib.hid (E2.out.kp (Kp.of_below (L := []) b3) (fun y hy => by cases hy))
  replace KK := Lib.hid (KK.out.trans (Kp.of_below (L := []) b3) (by simp))
  replace H := Lib.hid (H.out.keep b3)
  clear b3 hgb hz2
  first | (refine hK.out _ _ ?_ (fun hHeld => ?_)) | (go_wp2_with fail; refine hK.out _ _ ?_ (fun hHeld => ?_))
  · (try dsimp only); exact ⟨N2.out, N1.out, H.out.nw.1⟩
  clear hK K
  refine rgt 17 (some 22) (v := ?_) rfl ?_ ?_
  rotate_left 1
  · (intro wS hSw; (try dsimp only at hSw); go_simp; try with_reducible rfl)
  try simp only [Act.put, List.setIfInBounds_toArray, List.set_cons_zero, List.set_cons_succ]
  refine rg_more (S' := fun w' => Blk w' gb 82 #[.int .u8 x.buf] ∧ Blk w' gl 80 #[.slice A d.n c, .int .i64 x.s, .bool (upTo d.es x.s (0 : Nat)), .bool (upTo d.es x.s (1 : Nat)), .bool (upTo d.es x.s (2 : Nat)), .bool (upTo d.es x.s (3 : Nat)), .bool x.ro] ∧ Blk w' gt 75 #[.int .i64 x.tm.gone, .int .u8 x.tm.c, .int .u8 x.tm.r, .bool x.tm.on] ∧ w'.cell? ⟨g, 22, none⟩ = some (.int .i64 x.now)) (fun w h => h.2) _ _ _ _ ?_
  clear hHeld
  have hHeld : (fun w' : World => Blk w' gb 82 #[.int .u8 x.buf] ∧ Blk w' gl 80 #[.slice A d.n c, .int .i64 x.s, .bool (upTo d.es x.s (0 : Nat)), .bool (upTo d.es x.s (1 : Nat)), .bool (upTo d.es x.s (2 : Nat)), .bool (upTo d.es x.s (3 : Nat)), .bool x.ro] ∧ Blk w' gt 75 #[.int .i64 x.tm.gone, .int .u8 x.tm.c, .int .u8 x.tm.r, .bool x.tm.on] ∧ w'.cell? ⟨g, 22, none⟩ = some (.int .i64 x.now)) _ := ⟨N3.out, N2.out, N1.out, H.out.nw.1⟩
  refine rgt 18 (some 23) (v := .agg #[.int .u8 x.buf]) rfl ?_ ?_
  · (intro wS hSw; (try dsimp only at hSw); exact exec_load_row 82 (.tmp 22) rfl gb rfl 82 #[.int .u8 x.buf] (0, 0) _ hSw.1 Tryz.underlying82 rfl (by kernel_rfl))
  try simp only [Act.put, List.setIfInBounds_toArray, List.set_cons_zero, List.set_cons_succ]
  refine rg_next (i := 22) (l := #[true, true, true, true, true, true, true, true, true, true, true, true, true, true, true, true, true, true, true, true, true, true, true, false, false, true, true, true, false, false, false, true, true, true, false, false, false, true, true, true, false, false, false, true, true, true, true, false, false, false]) (fuel := 14) (by kernel_rfl) rfl (by kernel_rfl) (by kernel_rfl) (fun K hK => ?_)
  go_simp
  (go_at_call 99)
  obtain ⟨cs, q1, q2⟩ := H.out.irq
  refine (qclone_any q1).mono ?_
  rintro e w4 ⟨rfl, y1, b4⟩
  obtain ⟨gi, hgi⟩ : ∃ gi, w3.heap.size = gi := ⟨_, rfl⟩
  have N4 : Hid (Blk w4 gi 86 #[.int .u8 x.q.d, .bool x.q.due]) := Lib.hid (hgi ▸ y1.1)
  simp only [hgi]
  have z4 : B ≤ gi := by omega
  have hz4 : gi < w4.heap.size := N4.out.lt
  replace N1 := Lib.hid (N1.out.kpn (Kp.of_below (L := []) b4) (B := B) (by omega) (by simp))
  replace N2 := Lib.hid (N2.out.kpn (Kp.of_below (L := []) b4) (B := B) (by omega) (by simp))
  replace N3 := Lib.hid (N3.out.kpn (Kp.of_below (L := []) b4) (B := B) (by omega) (by simp))
  replace E2 := Lib.hid (E2.out.kp (Kp.of_below (L := []) b4) (fun y hy => by cases hy))
  replace KK := Lib.hid (KK.out.trans (Kp.of_below (L := []) b4) (by simp))
  replace H := Lib.hid (H.out.keep b4)
  clear q1 q2 cs y1 b4 hgi hz3
  first | (refine hK.out _ _ ?_ (fun hHeld => ?_)) | (go_wp2_with fail; refine hK.out _ _ ?_ (fun hHeld => ?_))
  · (try dsimp only); exact ⟨N3.out, N2.out, N1.out, H.out.nw.1⟩
  clear hK K
  refine rgt 23 (some 28) (v := ?_) rfl ?_ ?_
  rotate_left 1
  · (intro wS hSw; (try dsimp only at hSw); go_simp; try with_reducible rfl)
  try simp only [Act.put, List.setIfInBounds_toArray, List.set_cons_zero, List.set_cons_succ]
  refine rg_more (S' := fun w' => Blk w' gi 86 #[.int .u8 x.q.d, .bool x.q.due] ∧ Blk w' gb 82 #[.int .u8 x.buf] ∧ Blk w' gl 80 #[.slice A d.n c, .int .i64 x.s, .bool (upTo d.es x.s (0 : Nat)), .bool (upTo d.es x.s (1 : Nat)), .bool (upTo d.es x.s (2 : Nat)), .bool (upTo d.es x.s (3 : Nat)), .bool x.ro] ∧ Blk w' gt 75 #[.int .i64 x.tm.gone, .int .u8 x.tm.c, .int .u8 x.tm.r, .bool x.tm.on] ∧ w'.cell? ⟨g, 22, none⟩ = some (.int .i64 x.now)) (fun w h => h.2) _ _ _ _ ?_
  clear hHeld
  have hHeld : (fun w' : World => Blk w' gi 86 #[.int .u8 x.q.d, .bool x.q.due] ∧ Blk w' gb 82 #[.int .u8 x.buf] ∧ Blk w' gl 80 #[.slice A d.n c, .int .i64 x.s, .bool (upTo d.es x.s (0 : Nat)), .bool (upTo d.es x.s (1 : Nat)), .bool (upTo d.es x.s (2 : Nat)), .bool (upTo d.es x.s (3 : Nat)), .bool x.ro] ∧ Blk w' gt 75 #[.int .i64 x.tm.gone, .int .u8 x.tm.c, .int .u8 x.tm.r, .bool x.tm.on] ∧ w'.cell? ⟨g, 22, none⟩ = some (.int .i64 x.now)) _ := ⟨N4.out, N3.out, N2.out, N1.out, H.out.nw.1⟩
  refine rgt 24 (some 29) (v := .agg #[.int .u8 x.q.d, .bool x.q.due]) rfl ?_ ?_
  · (intro wS hSw; (try dsimp only at hSw); exact exec_load_row 86 (.tmp 28) rfl gi rfl 86 #[.int .u8 x.q.d, .bool x.q.due] (0, 0) _ hSw.1 Tryz.underlying86 rfl (by kernel_rfl))
  try simp only [Act.put, List.setIfInBounds_toArray, List.set_cons_zero, List.set_cons_succ]
  refine rg_next (i := 28) (l := #[true, true, true, true, true, true, true, true, true, true, true, true, true, true, true, true, true, true, true, true, true, true, true, true, true, true, true, true, true, false, false, true, true, true, false, false, false, true, true, true, false, false, false, true, true, true, true, false, false, false]) (fuel := 11) (by kernel_rfl) rfl (by kernel_rfl) (by kernel_rfl) (fun K hK => ?_)
  go_simp
  (go_at_call 100)
  obtain ⟨cs, q1, q2⟩ := H.out.prt
  refine (pclone_any q1 hd.1).mono ?_
  rintro e w5 ⟨gp, bp, rfl, r1, r2, y1, y2, k5⟩
  have N5 : Hid (Blk w5 gp 93 #[giveV bp, .int .i64 x.tp, .int .u8 x.pt.l, .int .i64 x.pt.p]) := Lib.hid y1.1.1
  have M5 : Hid (Box w5 bp (d.np - x.tp) (fun i => d.zp (x.tp + i))) := Lib.hid y1.1.2.2
  have z5 : B ≤ gp ∧ B ≤ bp := by omega
  have hz5 : bp < w5.heap.size ∧ w4.heap.size ≤ w5.heap.size := ⟨PT.ltc y1, k5.size⟩
  have off := H.out.boxOff.2.2
  replace N1 := Lib.hid (N1.out.kpn k5 (B := B) (by omega) (by simp; omega))
  replace N2 := Lib.hid (N2.out.kpn k5 (B := B) (by omega) (by simp; omega))
  replace N3 := Lib.hid (N3.out.kpn k5 (B := B) (by omega) (by simp; omega))
  replace N4 := Lib.hid (N4.out.kpn k5 (B := B) (by omega) (by simp; omega))
  replace E2 := Lib.hid (E2.out.kp k5 (fun y hy => by obtain rfl := List.mem_singleton.1 hy; obtain ⟨t, cs, o1, _, o2⟩ := off; exact ⟨t, cs, o1, o2⟩))
  replace KK := Lib.hid (KK.out.trans k5 (by simp))
  replace H := Lib.hid (q2 _ _ _ _ y2 k5 (by simp))
  clear q1 q2 cs y1 y2 k5 off r1 r2
  first | (refine hK.out _ _ ?_ (fun hHeld => ?_)) | (go_wp2_with fail; refine hK.out _ _ ?_ (fun hHeld => ?_))
  · (try dsimp only); exact ⟨N4.out, N3.out, N2.out, N1.out, H.out.nw.1⟩
  clear hK K
  refine rgt 29 (some 34) (v := ?_) rfl ?_ ?_
  rotate_left 1
  · (intro wS hSw; (try dsimp only at hSw); go_simp; try with_reducible rfl)
  try simp only [Act.put, List.setIfInBounds_toArray, List.set_cons_zero, List.set_cons_succ]
  refine rg_more (S' := fun w' => Blk w' gp 93 #[giveV bp, .int .i64 x.tp, .int .u8 x.pt.l, .int .i64 x.pt.p] ∧ Blk w' gi 86 #[.int .u8 x.q.d, .bool x.q.due] ∧ Blk w' gb 82 #[.int .u8 x.buf] ∧ Blk w' gl 80 #[.slice A d.n c, .int .i64 x.s, .bool (upTo d.es x.s (0 : Nat)), .bool (upTo d.es x.s (1 : Nat)), .bool (upTo d.es x.s (2 : Nat)), .bool (upTo d.es x.s (3 : Nat)), .bool x.ro] ∧ Blk w' gt 75 #[.int .i64 x.tm.gone, .int .u8 x.tm.c, .int .u8 x.tm.r, .bool x.tm.on] ∧ w'.cell? ⟨g, 22, none⟩ = some (.int .i64 x.now)) (fun w h => h.2) _ _ _ _ ?_
  clear hHeld
  have hHeld : (fun w' : World => Blk w' gp 93 #[giveV bp, .int .i64 x.tp, .int .u8 x.pt.l, .int .i64 x.pt.p] ∧ Blk w' gi 86 #[.int .u8 x.q.d, .bool x.q.due] ∧ Blk w' gb 82 #[.int .u8 x.buf] ∧ Blk w' gl 80 #[.slice A d.n c, .int .i64 x.s, .bool (upTo d.es x.s (0 : Nat)), .bool (upTo d.es x.s (1 : Nat)), .bool (upTo d.es x.s (2 : Nat)), .bool (upTo d.es x.s (3 : Nat)), .bool x.ro] ∧ Blk w' gt 75 #[.int .i64 x.tm.gone, .int .u8 x.tm.c, .int .u8 x.tm.r, .bool x.tm.on] ∧ w'.cell? ⟨g, 22, none⟩ = some (.int .i64 x.now)) _ := ⟨N5.out, N4.out, N3.out, N2.out, N1.out, H.out.nw.1⟩
  refine rgt 30 (some 35) (v := .agg #[giveV bp, .int .i64 x.tp, .int .u8 x.pt.l, .int .i64 x.pt.p]) rfl ?_ ?_
  · (intro wS hSw; (try dsimp only at hSw); exact exec_load_row 93 (.tmp 34) rfl gp rfl 93 #[giveV bp, .int .i64 x.tp, .int .u8 x.pt.l, .int .i64 x.pt.p] (0, 0) _ hSw.1 Tryz.underlying93 rfl (by kernel_rfl))
  try simp only [Act.put, List.setIfInBounds_toArray, List.set_cons_zero, List.set_cons_succ]
  refine rg_next (i := 34) (l := #[true, true, true, true, true, true, true, true, true, true, true, true, true, true, true, true, true, true, true, true, true, true, true, true, true, true, true, true, true, true, true, true, true, true, true, false, false, true, true, true, false, false, false, true, true, true, true, false, false, false]) (fuel := 8) (by kernel_rfl) rfl (by kernel_rfl) (by kernel_rfl) (fun K hK => ?_)
  go_simp
  (go_at_call 101)
  obtain ⟨cs, q1, q2⟩ := H.out.fdv
  refine (fpclone_any q1 (by omega)).mono ?_
  rintro e w6 ⟨gv, bv, rfl, r1, r2, y1, y2, k6⟩
  have N6 : Hid (Blk w6 gv 91 #[giveV bv, .int .i64 x.tv]) := Lib.hid y1.1
  have M6 : Hid (Box w6 bv (d.nv - x.tv) (fun i => d.zv (x.tv + i))) := Lib.hid y1.2.2
  have z6 : B ≤ gv ∧ B ≤ bv ∧ bp < bv := by omega
  have hz6 : bv < w6.heap.size ∧ w5.heap.size ≤ w6.heap.size := ⟨FP.ltc y1, k6.size⟩
  have off := H.out.boxOff.1
  replace N1 := Lib.hid (N1.out.kpn k6 (B := B) (by omega) (by simp; omega))
  replace N2 := Lib.hid (N2.out.kpn k6 (B := B) (by omega) (by simp; omega))
  replace N3 := Lib.hid (N3.out.kpn k6 (B := B) (by omega) (by simp; omega))
  replace N4 := Lib.hid (N4.out.kpn k6 (B := B) (by omega) (by simp; omega))
  replace N5 := Lib.hid (N5.out.kpn k6 (B := B) (by omega) (by simp; omega))
  replace M5 := Lib.hid (M5.out.kpn k6 (fun y hy => by obtain rfl := List.mem_singleton.1 hy; obtain ⟨t, cs, o1, o2, _⟩ := off; exact ⟨t, cs, o1, o2⟩) (B := B) (by omega) (by simp; omega))
  replace E2 := Lib.hid (E2.out.kp k6 (fun y hy => by obtain rfl := List.mem_singleton.1 hy; obtain ⟨t, cs, o1, _, o2⟩ := off; exact ⟨t, cs, o1, o2⟩))
  replace KK := Lib.hid (KK.out.trans k6 (by simp))
  replace H := Lib.hid (q2 _ _ _ y2 k6 (by simp))
  clear q1 q2 cs y1 y2 k6 off r1 r2
  first | (refine hK.out _ _ ?_ (fun hHeld => ?_)) | (go_wp2_with fail; refine hK.out _ _ ?_ (fun hHeld => ?_))
  · (try dsimp only); exact ⟨N5.out, N4.out, N3.out, N2.out, N1.out, H.out.nw.1⟩
  clear hK K
  refine rgt 35 (some 40) (v := ?_) rfl ?_ ?_
  rotate_left 1
  · (intro wS hSw; (try dsimp only at hSw); go_simp; try with_reducible rfl)
  try simp only [Act.put, List.setIfInBounds_toArray, List.set_cons_zero, List.set_cons_succ]
  refine rg_more (S' := fun w' => Blk w' gv 91 #[giveV bv, .int .i64 x.tv] ∧ Blk w' gp 93 #[giveV bp, .int .i64 x.tp, .int .u8 x.pt.l, .int .i64 x.pt.p] ∧ Blk w' gi 86 #[.int .u8 x.q.d, .bool x.q.due] ∧ Blk w' gb 82 #[.int .u8 x.buf] ∧ Blk w' gl 80 #[.slice A d.n c, .int .i64 x.s, .bool (upTo d.es x.s (0 : Nat)), .bool (upTo d.es x.s (1 : Nat)), .bool (upTo d.es x.s (2 : Nat)), .bool (upTo d.es x.s (3 : Nat)), .bool x.ro] ∧ Blk w' gt 75 #[.int .i64 x.tm.gone, .int .u8 x.tm.c, .int .u8 x.tm.r, .bool x.tm.on] ∧ w'.cell? ⟨g, 22, none⟩ = some (.int .i64 x.now)) (fun w h => h.2) _ _ _ _ ?_
  clear hHeld
  have hHeld : (fun w' : World => Blk w' gv 91 #[giveV bv, .int .i64 x.tv] ∧ Blk w' gp 93 #[giveV bp, .int .i64 x.tp, .int .u8 x.pt.l, .int .i64 x.pt.p] ∧ Blk w' gi 86 #[.int .u8 x.q.d, .bool x.q.due] ∧ Blk w' gb 82 #[.int .u8 x.buf] ∧ Blk w' gl 80 #[.slice A d.n c, .int .i64 x.s, .bool (upTo d.es x.s (0 : Nat)), .bool (upTo d.es x.s (1 : Nat)), .bool (upTo d.es x.s (2 : Nat)), .bool (upTo d.es x.s (3 : Nat)), .bool x.ro] ∧ Blk w' gt 75 #[.int .i64 x.tm.gone, .int .u8 x.tm.c, .int .u8 x.tm.r, .bool x.tm.on] ∧ w'.cell? ⟨g, 22, none⟩ = some (.int .i64 x.now)) _ := ⟨N6.out, N5.out, N4.out, N3.out, N2.out, N1.out, H.out.nw.1⟩
  refine rgt 36 (some 41) (v := .agg #[giveV bv, .int .i64 x.tv]) rfl ?_ ?_
  · (intro wS hSw; (try dsimp only at hSw); exact exec_load_row 91 (.tmp 40) rfl gv rfl 91 #[giveV bv, .int .i64 x.tv] (0, 0) _ hSw.1 Tryz.underlying91 rfl (by kernel_rfl))
  try simp only [Act.put, List.setIfInBounds_toArray, List.set_cons_zero, List.set_cons_succ]
  refine rg_next (i := 40) (l := #[true, true, true, true, true, true, true, true, true, true, true, true, true, true, true, true, true, true, true, true, true, true, true, true, true, true, true, true, true, true, true, true, true, true, true, true, true, true, true, true, true, false, false, true, true, true, true, false, false, false]) (fuel := 5) (by kernel_rfl) rfl (by kernel_rfl) (by kernel_rfl) (fun K hK => ?_)
  go_simp
  (go_at_call 101)
  obtain ⟨cs, q1, q2⟩ := H.out.fdc
  refine (fpclone_any q1 (by omega)).mono ?_
  rintro e w7 ⟨gc, bc, rfl, r1, r2, y1, y2, k7⟩
  have N7 : Hid (Blk w7 gc 91 #[giveV bc, .int .i64 x.tc]) := Lib.hid y1.1
  have M7 : Hid (Box w7 bc (d.nc - x.tc) (fun i => d.zc (x.tc + i))) := Lib.hid y1.2.2
  have z7 : B ≤ gc ∧ B ≤ bc ∧ bv < bc ∧ bp < bc := by omega
  have off := H.out.boxOff.2.1
  replace N1 := Lib.hid (N1.out.kpn k7 (B := B) (by omega) (by simp; omega))
  replace N2 := Lib.hid (N2.out.kpn k7 (B := B) (by omega) (by simp; omega))
  replace N3 := Lib.hid (N3.out.kpn k7 (B := B) (by omega) (by simp; omega))
  replace N4 := Lib.hid (N4.out.kpn k7 (B := B) (by omega) (by simp; omega))
  replace N5 := Lib.hid (N5.out.kpn k7 (B := B) (by omega) (by simp; omega))
  replace N6 := Lib.hid (N6.out.kpn k7 (B := B) (by omega) (by simp; omega))
  replace M5 := Lib.hid (M5.out.kpn k7 (fun y hy => by obtain rfl := List.mem_singleton.1 hy; obtain ⟨t, cs, o1, o2, _⟩ := off; exact ⟨t, cs, o1, o2⟩) (B := B) (by omega) (by simp; omega))
  replace M6 := Lib.hid (M6.out.kpn k7 (fun y hy => by obtain rfl := List.mem_singleton.1 hy; obtain ⟨t, cs, o1, o2, _⟩ := off; exact ⟨t, cs, o1, o2⟩) (B := B) (by omega) (by simp; omega))
  replace E2 := Lib.hid (E2.out.kp k7 (fun y hy => by obtain rfl := List.mem_singleton.1 hy; obtain ⟨t, cs, o1, _, o2⟩ := off; exact ⟨t, cs, o1, o2⟩))
  replace KK := Lib.hid (KK.out.trans k7 (by simp))
  replace H := Lib.hid (q2 _ _ _ y2 k7 (by simp))
  clear q1 q2 cs y1 y2 k7 off r1 r2
  first | (refine hK.out _ _ ?_ (fun hHeld => ?_)) | (go_wp2_with fail; refine hK.out _ _ ?_ (fun hHeld => ?_))
  · (try dsimp only); exact ⟨N6.out, N5.out, N4.out, N3.out, N2.out, N1.out, H.out.nw.1⟩
  clear hK K
  refine rgt 41 (some 46) (v := ?_) rfl ?_ ?_
  rotate_left 1
  · (intro wS hSw; (try dsimp only at hSw); go_simp; try with_reducible rfl)
  try simp only [Act.put, List.setIfInBounds_toArray, List.set_cons_zero, List.set_cons_succ]
  refine rg_more (S' := fun w' => Blk w' gc 91 #[giveV bc, .int .i64 x.tc] ∧ Blk w' gv 91 #[giveV bv, .int .i64 x.tv] ∧ Blk w' gp 93 #[giveV bp, .int .i64 x.tp, .int .u8 x.pt.l, .int .i64 x.pt.p] ∧ Blk w' gi 86 #[.int .u8 x.q.d, .bool x.q.due] ∧ Blk w' gb 82 #[.int .u8 x.buf] ∧ Blk w' gl 80 #[.slice A d.n c, .int .i64 x.s, .bool (upTo d.es x.s (0 : Nat)), .bool (upTo d.es x.s (1 : Nat)), .bool (upTo d.es x.s (2 : Nat)), .bool (upTo d.es x.s (3 : Nat)), .bool x.ro] ∧ Blk w' gt 75 #[.int .i64 x.tm.gone, .int .u8 x.tm.c, .int .u8 x.tm.r, .bool x.tm.on] ∧ w'.cell? ⟨g, 22, none⟩ = some (.int .i64 x.now)) (fun w h => h.2) _ _ _ _ ?_
  clear hHeld
  have hHeld : (fun w' : World => Blk w' gc 91 #[giveV bc, .int .i64 x.tc] ∧ Blk w' gv 91 #[giveV bv, .int .i64 x.tv] ∧ Blk w' gp 93 #[giveV bp, .int .i64 x.tp, .int .u8 x.pt.l, .int .i64 x.pt.p] ∧ Blk w' gi 86 #[.int .u8 x.q.d, .bool x.q.due] ∧ Blk w' gb 82 #[.int .u8 x.buf] ∧ Blk w' gl 80 #[.slice A d.n c, .int .i64 x.s, .bool (upTo d.es x.s (0 : Nat)), .bool (upTo d.es x.s (1 : Nat)), .bool (upTo d.es x.s (2 : Nat)), .bool (upTo d.es x.s (3 : Nat)), .bool x.ro] ∧ Blk w' gt 75 #[.int .i64 x.tm.gone, .int .u8 x.tm.c, .int .u8 x.tm.r, .bool x.tm.on] ∧ w'.cell? ⟨g, 22, none⟩ = some (.int .i64 x.now)) _ := ⟨N7.out, N6.out, N5.out, N4.out, N3.out, N2.out, N1.out, H.out.nw.1⟩
  refine rgt 42 (some 47) (v := .agg #[giveV bc, .int .i64 x.tc]) rfl ?_ ?_
  · (intro wS hSw; (try dsimp only at hSw); exact exec_load_row 91 (.tmp 46) rfl gc rfl 91 #[giveV bc, .int .i64 x.tc] (0, 0) _ hSw.1 Tryz.underlying91 rfl (by kernel_rfl))
  refine rgt 47 (some 52) (v := ?_) rfl ?_ ?_
  rotate_left 1
  · (intro wS hSw; (try dsimp only at hSw); go_simp; try with_reducible rfl)
  try simp only [Act.put, List.setIfInBounds_toArray, List.set_cons_zero, List.set_cons_succ]
  unfold giveV
  refine rg_next (i := 48) (l := #[true, true, true, true, true, true, true, true, true, true, true, true, true, true, true, true, true, true, true, true, true, true, true, true, true, true, true, true, true, true, true, true, true, true, true, true, true, true, true, true, true, true, true, true, true, true, true, true, true, false]) (fuel := 1) (by kernel_rfl) rfl (by kernel_rfl) (by kernel_rfl) (fun K hK => ?_)
  go_simp
  have b8 : Below w7.heap.size w7 (w7.alloc (.cells (hpC d ⟨bv, bc, bp⟩ A c x) 99)) := (Below.refl _ _).alloc (Nat.le_refl _) _
  have N8 := Lib.hid (Blk.new w7 99 (hpC d ⟨bv, bc, bp⟩ A c x))
  have O8 : Hid (HPo (w7.alloc (.cells (hpC d ⟨bv, bc, bp⟩ A c x) 99)) d ⟨bv, bc, bp⟩ A c x) := Lib.hid ⟨E2.out.keep b8, M6.out.kp (Kp.of_below (L := []) b8) (fun y hy => by cases hy) (by simp), M7.out.kp (Kp.of_below (L := []) b8) (fun y hy => by cases hy) (by simp), M5.out.kp (Kp.of_below (L := []) b8) (fun y hy => by cases hy) (by simp), ⟨(by dsimp only; omega), (by dsimp only; omega), (by dsimp only; omega)⟩, H.out.ok, H.out.gd⟩
  have H8 := Lib.hid (H.out.keep b8)
  have K8 := Lib.hid (KK.out.trans (Kp.of_below (L := []) b8) (by simp))
  have z8 : B ≤ w7.heap.size := (by have := N7.out.lt; omega)
  first | (refine hK.out _ _ ?_ (fun hHeld => ?_)) | (go_wp2_with fail; refine hK.out _ _ ?_ (fun hHeld => ?_))
  · (try dsimp only); exact ⟨N7.out.below b8 N7.out.lt, N6.out.below b8 N6.out.lt, N5.out.below b8 N5.out.lt, N4.out.below b8 N4.out.lt, N3.out.below b8 N3.out.lt, N2.out.below b8 N2.out.lt, N1.out.below b8 N1.out.lt, H8.out.nw.1⟩
  clear hK K
  refine rgt 49 (some 2) (v := ?_) rfl ?_ ?_
  rotate_left 1
  · (intro wS hSw; (try dsimp only at hSw); go_simp; try with_reducible rfl)
  try simp only [Act.put, List.setIfInBounds_toArray, List.set_cons_zero, List.set_cons_succ]
  refine wpAnyH_done (by kernel_rfl) ?_ _
  go_wp2_with fail
  go_ret
  exact ⟨w7.heap.size, ⟨bv, bc, bp⟩, rfl, by rw [HBB.out]; exact ⟨by omega, by dsimp only; omega, by dsimp only; omega, by dsimp only; omega⟩, ⟨A, c, N8.out, O8.out⟩, H8.out, K8.out⟩
end
end Go.Proofs.YtleofglnlfpoeaaGreat
namespace Go.Proofs.YtleofglnlfpoeaaGreat
open Go.RowKit
set_option linter.unusedVariables false
set_option linter.unusedSimpArgs false
set_option maxRecDepth 100000
/-- All registers. -/
def stC (x : Hp) : Array Value := #[.int .u8 x.buf, .int .u8 x.tm.r, .int .u8 x.tm.c, .int .u8 x.q.d, .int .u8 x.pt.l, .int .i64 (3072 - (x.tm.gone : Int)), .bool x.tm.on, .bool x.q.due, .bool x.ro, .int .i64 x.tv, .int .i64 x.tc, .int .i64 x.tp]
section
variable {w : World} {g : Nat} {d : Hd} {b : Hb} {x : Hp}
set_option maxHeartbeats 8000000 in
theorem hstatus_any (h : HP w g d b x) :
    Calls Tryz.prog 77 #[.pointer (some ⟨g, 0, none⟩)] w fun e w' => e = .returned (.agg (stC x)) ∧ Below w.heap.size w w' := by
  have hb0 : Below w.heap.size w (w.alloc (.cells #[.int .u8 0, .int .u8 0, .int .u8 0, .int .u8 0, .int .u8 0, .int .i64 0, .bool false, .bool false, .bool false, .int .i64 0, .int .i64 0, .int .i64 0] 68)) := (Below.refl _ _).alloc (Nat.le_refl _) _
  have H := Lib.hid ((h.keep hb0).kp0 (Kp.refl _ _).drew)
  have HB := Lib.hid hb0
  have hbl := Blk.new w 68 #[.int .u8 0, .int .u8 0, .int .u8 0, .int .u8 0, .int .u8 0, .int .i64 0, .bool false, .bool false, .bool false, .int .i64 0, .int .i64 0, .int .i64 0]
  have HL := Lib.hid hbl
  obtain ⟨left, hleft⟩ : ∃ l, 3072 - (x.tm.gone : Int) = l := ⟨_, rfl⟩
  have HLEFT := Lib.hid hleft
  clear h hb0 hbl hleft
  go_enter Tryz.func77, Tryz.ntmps77
  go_wp2_with fail
  generalize World.alloc _ _ = w0 at *
  refine rg_begin (S := fun w' => True) 50 #[false, false, false, false, false, false, false, false, false, false, false, false, false, false, false, false, false, false, false, false, false, false, false, false, false, false, false, false, false, false, false, false, false, false, false, false, false, false, false, false, false, false, false, false, false, false, false, false, false, false] (by kernel_rfl) (by kernel_rfl) (by kernel_rfl) ?_ (fun hHeld => ?_)
  · exact trivial
  refine rgt 0 (some 6) (v := ?_) rfl ?_ ?_
  rotate_left 1
  · (intro wS hSw; (try dsimp only at hSw); go_simp; try with_reducible rfl)
  refine rgt 1 (some 7) (v := ?_) rfl ?_ ?_
  rotate_left 1
  · (intro wS hSw; (try dsimp only at hSw); go_simp; try with_reducible rfl)
  refine rgt 2 (some 8) (v := ?_) rfl ?_ ?_
  rotate_left 1
  · (intro wS hSw; (try dsimp only at hSw); go_simp; try with_reducible rfl)
  refine rgt 4 (some 10) (v := ?_) rfl ?_ ?_
  rotate_left 1
  · (intro wS hSw; (try dsimp only at hSw); go_simp; try with_reducible rfl)
  refine rgt 5 (some 11) (v := ?_) rfl ?_ ?_
  rotate_left 1
  · (intro wS hSw; (try dsimp only at hSw); go_simp; try with_reducible rfl)
  refine rgt 6 (some 12) (v := ?_) rfl ?_ ?_
  rotate_left 1
  · (intro wS hSw; (try dsimp only at hSw); go_simp; try with_reducible rfl)
  refine rgt 8 (some 14) (v := ?_) rfl ?_ ?_
  rotate_left 1
  · (intro wS hSw; (try dsimp only at hSw); go_simp; try with_reducible rfl)
  refine rgt 9 (some 15) (v := ?_) rfl ?_ ?_
  rotate_left 1
  · (intro wS hSw; (try dsimp only at hSw); go_simp; try with_reducible rfl)
  refine rgt 10 (some 16) (v := ?_) rfl ?_ ?_
  rotate_left 1
  · (intro wS hSw; (try dsimp only at hSw); go_simp; try with_reducible rfl)
  refine rgt 12 (some 18) (v := ?_) rfl ?_ ?_
  rotate_left 1
  · (intro wS hSw; (try dsimp only at hSw); go_simp; try with_reducible rfl)
  refine rgt 13 (some 19) (v := ?_) rfl ?_ ?_
  rotate_left 1
  · (intro wS hSw; (try dsimp only at hSw); go_simp; try with_reducible rfl)
  refine rgt 14 (some 20) (v := ?_) rfl ?_ ?_
  rotate_left 1
  · (intro wS hSw; (try dsimp only at hSw); go_simp; try with_reducible rfl)
  refine rgt 16 (some 22) (v := ?_) rfl ?_ ?_
  rotate_left 1
  · (intro wS hSw; (try dsimp only at hSw); go_simp; try with_reducible rfl)
  refine rgt 17 (some 23) (v := ?_) rfl ?_ ?_
  rotate_left 1
  · (intro wS hSw; (try dsimp only at hSw); go_simp; try with_reducible rfl)
  refine rgt 18 (some 24) (v := ?_) rfl ?_ ?_
  rotate_left 1
  · (intro wS hSw; (try dsimp only at hSw); go_simp; try with_reducible rfl)
  refine rgt 20 (some 26) (v := ?_) rfl ?_ ?_
  rotate_left 1
  · (intro wS hSw; (try dsimp only at hSw); go_simp; try with_reducible rfl)
  refine rgt 21 (some 27) (v := ?_) rfl ?_ ?_
  rotate_left 1
  · (intro wS hSw; (try dsimp only at hSw); go_simp; try with_reducible rfl)
  refine rgt 22 (some 28) (v := ?_) rfl ?_ ?_
  rotate_left 1
  · (intro wS hSw; (try dsimp only at hSw); go_simp; try with_reducible rfl)
  refine rgt 24 (some 30) (v := ?_) rfl ?_ ?_
  rotate_left 1
  · (intro wS hSw; (try dsimp only at hSw); go_simp; try with_reducible rfl)
  refine rgt 25 (some 31) (v := ?_) rfl ?_ ?_
  rotate_left 1
  · (intro wS hSw; (try dsimp only at hSw); go_simp; try with_reducible rfl)
  refine rgt 26 (some 32) (v := ?_) rfl ?_ ?_
  rotate_left 1
  · (intro wS hSw; (try dsimp only at hSw); go_simp; try with_reducible rfl)
  refine rgt 28 (some 34) (v := ?_) rfl ?_ ?_
  rotate_left 1
  · (intro wS hSw; (try dsimp only at hSw); go_simp; try with_reducible rfl)
  refine rgt 29 (some 35) (v := ?_) rfl ?_ ?_
  rotate_left 1
  · (intro wS hSw; (try dsimp only at hSw); go_simp; try with_reducible rfl)
  refine rgt 30 (some 36) (v := ?_) rfl ?_ ?_
  rotate_left 1
  · (intro wS hSw; (try dsimp only at hSw); go_simp; try with_reducible rfl)
  refine rgt 32 (some 38) (v := ?_) rfl ?_ ?_
  rotate_left 1
  · (intro wS hSw; (try dsimp only at hSw); go_simp; try with_reducible rfl)
  refine rgt 33 (some 39) (v := ?_) rfl ?_ ?_
  rotate_left 1
  · (intro wS hSw; (try dsimp only at hSw); go_simp; try with_reducible rfl)
  refine rgt 34 (some 40) (v := ?_) rfl ?_ ?_
  rotate_left 1
  · (intro wS hSw; (try dsimp only at hSw); go_simp; try with_reducible rfl)
  refine rgt 36 (some 42) (v := ?_) rfl ?_ ?_
  rotate_left 1
  · (intro wS hSw; (try dsimp only at hSw); go_simp; try with_reducible rfl)
  refine rgt 37 (some 43) (v := ?_) rfl ?_ ?_
  rotate_left 1
  · (intro wS hSw; (try dsimp only at hSw); go_simp; try with_reducible rfl)
  refine rgt 38 (some 44) (v := ?_) rfl ?_ ?_
  rotate_left 1
  · (intro wS hSw; (try dsimp only at hSw); go_simp; try with_reducible rfl)
  refine rgt 40 (some 46) (v := ?_) rfl ?_ ?_
  rotate_left 1
  · (intro wS hSw; (try dsimp only at hSw); go_simp; try with_reducible rfl)
  refine rgt 41 (some 47) (v := ?_) rfl ?_ ?_
  rotate_left 1
  · (intro wS hSw; (try dsimp only at hSw); go_simp; try with_reducible rfl)
  refine rgt 42 (some 48) (v := ?_) rfl ?_ ?_
  rotate_left 1
  · (intro wS hSw; (try dsimp only at hSw); go_simp; try with_reducible rfl)
  refine rgt 44 (some 50) (v := ?_) rfl ?_ ?_
  rotate_left 1
  · (intro wS hSw; (try dsimp only at hSw); go_simp; try with_reducible rfl)
  refine rgt 45 (some 51) (v := ?_) rfl ?_ ?_
  rotate_left 1
  · (intro wS hSw; (try dsimp only at hSw); go_simp; try with_reducible rfl)
  refine rgt 46 (some 52) (v := ?_) rfl ?_ ?_
  rotate_left 1
  · (intro wS hSw; (try dsimp only at hSw); go_simp; try with_reducible rfl)
  try simp only [Act.put, List.setIfInBounds_toArray, List.set_cons_zero, List.set_cons_succ]
  refine rg_next (i := 3) (l := #[true, true, true, true, true, true, true, false, true, true, true, false, true, true, true, false, true, true, true, false, true, true, true, false, true, true, true, false, true, true, true, false, true, true, true, false, true, true, true, false, true, true, true, false, true, true, true, false, false, false]) (fuel := 13) (by kernel_rfl) rfl (by kernel_rfl) (by kernel_rfl) (fun K hK => ?_)
  go_simp
  (go_at_call 98)
  refine (pvalue_any H.out.lat.1).mono ?_
  rintro e w' ⟨rfl, rfl⟩
  first | (refine hK.out _ _ ?_ (fun hHeld => ?_)) | (go_wp2_with fail; refine hK.out _ _ ?_ (fun hHeld => ?_))
  · (try dsimp only); try exact trivial
  clear hK K
  try simp only [Act.put, List.setIfInBounds_toArray, List.set_cons_zero, List.set_cons_succ]
  refine rg_next (i := 7) (l := #[true, true, true, true, true, true, true, true, true, true, true, false, true, true, true, false, true, true, true, false, true, true, true, false, true, true, true, false, true, true, true, false, true, true, true, false, true, true, true, false, true, true, true, false, true, true, true, false, false, false]) (fuel := 12) (by kernel_rfl) rfl (by kernel_rfl) (by kernel_rfl) (fun K hK => ?_)
  go_simp
  (go_at_call 123)
  obtain ⟨cs, q1, q2⟩ := H.out.tmr
  refine (treload_any q1).mono ?_
  rintro e w' ⟨rfl, rfl⟩
  clear q1 q2 cs
  first | (refine hK.out _ _ ?_ (fun hHeld => ?_)) | (go_wp2_with fail; refine hK.out _ _ ?_ (fun hHeld => ?_))
  · (try dsimp only); try exact trivial
  clear hK K
  try simp only [Act.put, List.setIfInBounds_toArray, List.set_cons_zero, List.set_cons_succ]
  refine rg_next (i := 11) (l := #[true, true, true, true, true, true, true, true, true, true, true, true, true, true, true, false, true, true, true, false, true, true, true, false, true, true, true, false, true, true, true, false, true, true, true, false, true, true, true, false, true, true, true, false, true, true, true, false, false, false]) (fuel := 11) (by kernel_rfl) rfl (by kernel_rfl) (by kernel_rfl) (fun K hK => ?_)
  go_simp
  (go_at_call 124)
  obtain ⟨cs, q1, q2⟩ := H.out.tmr
  refine (tcounter_any q1).mono ?_
  rintro e w' ⟨rfl, rfl⟩
  clear q1 q2 cs
  first | (refine hK.out _ _ ?_ (fun hHeld => ?_)) | (go_wp2_with fail; refine hK.out _ _ ?_ (fun hHeld => ?_))
  · (try dsimp only); try exact trivial
  clear hK K
  try simp only [Act.put, List.setIfInBounds_toArray, List.set_cons_zero, List.set_cons_succ]
  refine rg_next (i := 15) (l := #[true, true, true, true, true, true, true, true, true, true, true, true, true, true, true, true, true, true, true, false, true, true, true, false, true, true, true, false, true, true, true, false, true, true, true, false, true, true, true, false, true, true, true, false, true, true, true, false, false, false]) (fuel := 10) (by kernel_rfl) rfl (by kernel_rfl) (by kernel_rfl) (fun K hK => ?_)
  go_simp
  (go_at_call 125)
  obtain ⟨cs, q1, q2⟩ := H.out.irq
  refine (qdisable_any q1).mono ?_
  rintro e w' ⟨rfl, rfl⟩
  clear q1 q2 cs
  first | (refine hK.out _ _ ?_ (fun hHeld => ?_)) | (go_wp2_with fail; refine hK.out _ _ ?_ (fun hHeld => ?_))
  · (try dsimp only); try exact trivial
  clear hK K
  try simp only [Act.put, List.setIfInBounds_toArray, List.set_cons_zero, List.set_cons_succ]
  refine rg_next (i := 19) (l := #[true, true, true, true, true, true, true, true, true, true, true, true, true, true, true, true, true, true, true, true, true, true, true, false, true, true, true, false, true, true, true, false, true, true, true, false, true, true, true, false, true, true, true, false, true, true, true, false, false, false]) (fuel := 9) (by kernel_rfl) rfl (by kernel_rfl) (by kernel_rfl) (fun K hK => ?_)
  go_simp
  (go_at_call 126)
  obtain ⟨cs, q1, q2⟩ := H.out.prt
  refine (pselect_any q1).mono ?_
  rintro e w' ⟨rfl, rfl⟩
  clear q1 q2 cs
  first | (refine hK.out _ _ ?_ (fun hHeld => ?_)) | (go_wp2_with fail; refine hK.out _ _ ?_ (fun hHeld => ?_))
  · (try dsimp only); try exact trivial
  clear hK K
  try simp only [Act.put, List.setIfInBounds_toArray, List.set_cons_zero, List.set_cons_succ]
  refine rg_next (i := 23) (l := #[true, true, true, true, true, true, true, true, true, true, true, true, true, true, true, true, true, true, true, true, true, true, true, true, true, true, true, false, true, true, true, false, true, true, true, false, true, true, true, false, true, true, true, false, true, true, true, false, false, false]) (fuel := 8) (by kernel_rfl) rfl (by kernel_rfl) (by kernel_rfl) (fun K hK => ?_)
  go_simp
  (go_at_call 127)
  obtain ⟨cs, q1, q2⟩ := H.out.tmr
  refine (tleft_any q1).mono ?_
  rw [HLEFT.out]
  rintro e w' ⟨rfl, rfl⟩
  clear q1 q2 cs
  first | (refine hK.out _ _ ?_ (fun hHeld => ?_)) | (go_wp2_with fail; refine hK.out _ _ ?_ (fun hHeld => ?_))
  · (try dsimp only); try exact trivial
  clear hK K
  try simp only [Act.put, List.setIfInBounds_toArray, List.set_cons_zero, List.set_cons_succ]
  refine rg_next (i := 27) (l := #[true, true, true, true, true, true, true, true, true, true, true, true, true, true, true, true, true, true, true, true, true, true, true, true, true, true, true, true, true, true, true, false, true, true, true, false, true, true, true, false, true, true, true, false, true, true, true, false, false, false]) (fuel := 7) (by kernel_rfl) rfl (by kernel_rfl) (by kernel_rfl) (fun K hK => ?_)
  go_simp
  (go_at_call 128)
  obtain ⟨cs, q1, q2⟩ := H.out.tmr
  refine (ton_any q1).mono ?_
  rintro e w' ⟨rfl, rfl⟩
  clear q1 q2 cs
  first | (refine hK.out _ _ ?_ (fun hHeld => ?_)) | (go_wp2_with fail; refine hK.out _ _ ?_ (fun hHeld => ?_))
  · (try dsimp only); try exact trivial
  clear hK K
  try simp only [Act.put, List.setIfInBounds_toArray, List.set_cons_zero, List.set_cons_succ]
  refine rg_next (i := 31) (l := #[true, true, true, true, true, true, true, true, true, true, true, true, true, true, true, true, true, true, true, true, true, true, true, true, true, true, true, true, true, true, true, true, true, true, true, false, true, true, true, false, true, true, true, false, true, true, true, false, false, false]) (fuel := 6) (by kernel_rfl) rfl (by kernel_rfl) (by kernel_rfl) (fun K hK => ?_)
  go_simp
  (go_at_call 129)
  obtain ⟨cs, q1, q2⟩ := H.out.irq
  refine (qdue_any q1).mono ?_
  rintro e w' ⟨rfl, rfl⟩
  clear q1 q2 cs
  first | (refine hK.out _ _ ?_ (fun hHeld => ?_)) | (go_wp2_with fail; refine hK.out _ _ ?_ (fun hHeld => ?_))
  · (try dsimp only); try exact trivial
  clear hK K
  try simp only [Act.put, List.setIfInBounds_toArray, List.set_cons_zero, List.set_cons_succ]
  refine rg_next (i := 35) (l := #[true, true, true, true, true, true, true, true, true, true, true, true, true, true, true, true, true, true, true, true, true, true, true, true, true, true, true, true, true, true, true, true, true, true, true, true, true, true, true, false, true, true, true, false, true, true, true, false, false, false]) (fuel := 5) (by kernel_rfl) rfl (by kernel_rfl) (by kernel_rfl) (fun K hK => ?_)
  go_simp
  (go_at_call 121)
  refine (hrose_any H.out.lns.1).mono ?_
  rintro e w' ⟨rfl, rfl⟩
  first | (refine hK.out _ _ ?_ (fun hHeld => ?_)) | (go_wp2_with fail; refine hK.out _ _ ?_ (fun hHeld => ?_))
  · (try dsimp only); try exact trivial
  clear hK K
  try simp only [Act.put, List.setIfInBounds_toArray, List.set_cons_zero, List.set_cons_succ]
  refine rg_next (i := 39) (l := #[true, true, true, true, true, true, true, true, true, true, true, true, true, true, true, true, true, true, true, true, true, true, true, true, true, true, true, true, true, true, true, true, true, true, true, true, true, true, true, true, true, true, true, false, true, true, true, false, false, false]) (fuel := 4) (by kernel_rfl) rfl (by kernel_rfl) (by kernel_rfl) (fun K hK => ?_)
  go_simp
  (go_at_call 130)
  obtain ⟨cs, q1, q2⟩ := H.out.fdv
  refine (fptaken_any q1).mono ?_
  rintro e w' ⟨rfl, rfl⟩
  clear q1 q2 cs
  first | (refine hK.out _ _ ?_ (fun hHeld => ?_)) | (go_wp2_with fail; refine hK.out _ _ ?_ (fun hHeld => ?_))
  · (try dsimp only); try exact trivial
  clear hK K
  try simp only [Act.put, List.setIfInBounds_toArray, List.set_cons_zero, List.set_cons_succ]
  refine rg_next (i := 43) (l := #[true, true, true, true, true, true, true, true, true, true, true, true, true, true, true, true, true, true, true, true, true, true, true, true, true, true, true, true, true, true, true, true, true, true, true, true, true, true, true, true, true, true, true, true, true, true, true, false, false, false]) (fuel := 3) (by kernel_rfl) rfl (by kernel_rfl) (by kernel_rfl) (fun K hK => ?_)
  go_simp
  (go_at_call 130)
  obtain ⟨cs, q1, q2⟩ := H.out.fdc
  refine (fptaken_any q1).mono ?_
  rintro e w' ⟨rfl, rfl⟩
  clear q1 q2 cs
  first | (refine hK.out _ _ ?_ (fun hHeld => ?_)) | (go_wp2_with fail; refine hK.out _ _ ?_ (fun hHeld => ?_))
  · (try dsimp only); try exact trivial
  clear hK K
  try simp only [Act.put, List.setIfInBounds_toArray, List.set_cons_zero, List.set_cons_succ]
  refine rg_next (i := 47) (l := #[true, true, true, true, true, true, true, true, true, true, true, true, true, true, true, true, true, true, true, true, true, true, true, true, true, true, true, true, true, true, true, true, true, true, true, true, true, true, true, true, true, true, true, true, true, true, true, true, false, false]) (fuel := 2) (by kernel_rfl) rfl (by kernel_rfl) (by kernel_rfl) (fun K hK => ?_)
  go_simp
  (go_at_call 131)
  obtain ⟨cs, q1, q2⟩ := H.out.prt
  refine (ptaken_any q1).mono ?_
  rintro e w' ⟨rfl, rfl⟩
  clear q1 q2 cs
  first | (refine hK.out _ _ ?_ (fun hHeld => ?_)) | (go_wp2_with fail; refine hK.out _ _ ?_ (fun hHeld => ?_))
  · (try dsimp only); try exact trivial
  clear hK K
  refine rgt 48 (some 54) (v := ?_) rfl ?_ ?_
  rotate_left 1
  · (intro wS hSw; (try dsimp only at hSw); go_simp; try with_reducible rfl)
  try simp only [Act.put, List.setIfInBounds_toArray, List.set_cons_zero, List.set_cons_succ]
  obtain ⟨r, hr⟩ : ∃ r, w.heap.size = r := ⟨_, rfl⟩
  have HW : Hid (r = w.heap.size) := Lib.hid hr.symm
  rw [hr] at HL
  simp only [hr]
  clear hr
  have f0 := HL.out.frozen 0
  have f1 := HL.out.frozen 1
  have f2 := HL.out.frozen 2
  have f3 := HL.out.frozen 3
  have f4 := HL.out.frozen 4
  have f5 := HL.out.frozen 5
  have f6 := HL.out.frozen 6
  have f7 := HL.out.frozen 7
  have f8 := HL.out.frozen 8
  have f9 := HL.out.frozen 9
  have f10 := HL.out.frozen 10
  have f11 := HL.out.frozen 11
  have e0 : w0.cell? ⟨r, 0, none⟩ = some (.int .u8 0) := HL.out.cell 0
  have e1 : w0.cell? ⟨r, 1, none⟩ = some (.int .u8 0) := HL.out.cell 1
  have e2 : w0.cell? ⟨r, 2, none⟩ = some (.int .u8 0) := HL.out.cell 2
  have e3 : w0.cell? ⟨r, 3, none⟩ = some (.int .u8 0) := HL.out.cell 3
  have e4 : w0.cell? ⟨r, 4, none⟩ = some (.int .u8 0) := HL.out.cell 4
  have e5 : w0.cell? ⟨r, 5, none⟩ = some (.int .i64 0) := HL.out.cell 5
  have e6 : w0.cell? ⟨r, 6, none⟩ = some (.bool false) := HL.out.cell 6
  have e7 : w0.cell? ⟨r, 7, none⟩ = some (.bool false) := HL.out.cell 7
  have e8 : w0.cell? ⟨r, 8, none⟩ = some (.bool false) := HL.out.cell 8
  have e9 : w0.cell? ⟨r, 9, none⟩ = some (.int .i64 0) := HL.out.cell 9
  have e10 : w0.cell? ⟨r, 10, none⟩ = some (.int .i64 0) := HL.out.cell 10
  have e11 : w0.cell? ⟨r, 11, none⟩ = some (.int .i64 0) := HL.out.cell 11
  refine rg_next (i := 49) (l := #[true, true, true, true, true, true, true, true, true, true, true, true, true, true, true, true, true, true, true, true, true, true, true, true, true, true, true, true, true, true, true, true, true, true, true, true, true, true, true, true, true, true, true, true, true, true, true, true, true, true]) (fuel := 0) (by kernel_rfl) rfl (by kernel_rfl) (by kernel_rfl) (fun K hK => ?_)
  go_simp
  skip
  first | (refine hK.out _ _ ?_ (fun hHeld => ?_)) | (go_wp2_with fail; refine hK.out _ _ ?_ (fun hHeld => ?_))
  · (try dsimp only); try exact trivial
  clear hK K
  try simp only [Act.put, List.setIfInBounds_toArray, List.set_cons_zero, List.set_cons_succ]
  refine wpAnyH_done (by kernel_rfl) ?_ _
  clear f0 f1 f2 f3 f4 f5 f6 f7 f8 f9 f10 f11 e0 e1 e2 e3 e4 e5 e6 e7 e8 e9 e10 e11 hHeld
  have NB := ((((((((((((HL.out.set_ 0 (.int .u8 x.buf)).set_ 1 (.int .u8 x.tm.r)).set_ 2 (.int .u8 x.tm.c)).set_ 3 (.int .u8 x.q.d)).set_ 4 (.int .u8 x.pt.l)).set_ 5 (.int .i64 left)).set_ 6 (.bool x.tm.on)).set_ 7 (.bool x.q.due)).set_ 8 (.bool x.ro)).set_ 9 (.int .i64 x.tv)).set_ 10 (.int .i64 x.tc)).set_ 11 (.int .i64 x.tp))
  have KB := (((((((((((((Kp.refl [r] w0).setCell (p := ⟨r, 0, none⟩) (.inl (by simp)) (.int .u8 x.buf)).setCell (p := ⟨r, 1, none⟩) (.inl (by simp)) (.int .u8 x.tm.r)).setCell (p := ⟨r, 2, none⟩) (.inl (by simp)) (.int .u8 x.tm.c)).setCell (p := ⟨r, 3, none⟩) (.inl (by simp)) (.int .u8 x.q.d)).setCell (p := ⟨r, 4, none⟩) (.inl (by simp)) (.int .u8 x.pt.l)).setCell (p := ⟨r, 5, none⟩) (.inl (by simp)) (.int .i64 left)).setCell (p := ⟨r, 6, none⟩) (.inl (by simp)) (.bool x.tm.on)).setCell (p := ⟨r, 7, none⟩) (.inl (by simp)) (.bool x.q.due)).setCell (p := ⟨r, 8, none⟩) (.inl (by simp)) (.bool x.ro)).setCell (p := ⟨r, 9, none⟩) (.inl (by simp)) (.int .i64 x.tv)).setCell (p := ⟨r, 10, none⟩) (.inl (by simp)) (.int .i64 x.tc)).setCell (p := ⟨r, 11, none⟩) (.inl (by simp)) (.int .i64 x.tp))
  simp only [List.setIfInBounds_toArray, List.set_cons_zero, List.set_cons_succ] at NB
  generalize World.setCell (World.setCell _ _ _) _ _ = wz at *
  have NZ := Lib.hid NB
  have KZ := Lib.hid KB
  have z0 : wz.cell? ⟨r, 0, none⟩ = some (.int .u8 x.buf) := NB.cell 0
  have z1 : wz.cell? ⟨r, 1, none⟩ = some (.int .u8 x.tm.r) := NB.cell 1
  have z2 : wz.cell? ⟨r, 2, none⟩ = some (.int .u8 x.tm.c) := NB.cell 2
  have z3 : wz.cell? ⟨r, 3, none⟩ = some (.int .u8 x.q.d) := NB.cell 3
  have z4 : wz.cell? ⟨r, 4, none⟩ = some (.int .u8 x.pt.l) := NB.cell 4
  have z5 : wz.cell? ⟨r, 5, none⟩ = some (.int .i64 left) := NB.cell 5
  have z6 : wz.cell? ⟨r, 6, none⟩ = some (.bool x.tm.on) := NB.cell 6
  have z7 : wz.cell? ⟨r, 7, none⟩ = some (.bool x.q.due) := NB.cell 7
  have z8 : wz.cell? ⟨r, 8, none⟩ = some (.bool x.ro) := NB.cell 8
  have z9 : wz.cell? ⟨r, 9, none⟩ = some (.int .i64 x.tv) := NB.cell 9
  have z10 : wz.cell? ⟨r, 10, none⟩ = some (.int .i64 x.tc) := NB.cell 10
  have z11 : wz.cell? ⟨r, 11, none⟩ = some (.int .i64 x.tp) := NB.cell 11
  clear NB KB
  go_wp2_with fail
  have e0 : (.agg (stC x) : Value) = .agg #[.int .u8 x.buf, .int .u8 x.tm.r, .int .u8 x.tm.c, .int .u8 x.q.d, .int .u8 x.pt.l, .int .i64 left, .bool x.tm.on, .bool x.q.due, .bool x.ro, .int .i64 x.tv, .int .i64 x.tc, .int .i64 x.tp] := by unfold stC; rw [HLEFT.out]
  refine bodyPost_ret (v := .agg (stC x)) (by rw [e0]; simp [results, Tryz.results77, go_sem, z0, z1, z2, z3, z4, z5, z6, z7, z8, z9, z10, z11]) rfl ?_
  have hr : w.heap.size ≤ r := by rw [HW.out]; exact Nat.le_refl _
  exact ⟨rfl, (KZ.out.onto HB.out HB.out.size (by simpa using hr)).drew⟩
end
end Go.Proofs.YtleofglnlfpoeaaGreat
