/-
  Texts of these proofs, one behind the other: Hard2, Hard3.
-/
import Derived.Test.YtcnjekballnncaaGreatKH27
import Derived.Deep.Cut
import Derived.Deep.CutRange
namespace Go.Proofs.YtcnjekballnncaaGreat
open Go.RowKit
set_option linter.unusedVariables false
set_option linter.unusedSimpArgs false
set_option maxRecDepth 100000
def HpR (v : Value) (g : Nat) (d : Hd) (b : Hb) (y : Hp) (L : List Nat) (w : World) (e : Ending) (w' : World) : Prop := e = .returned v ∧ HP w' g d b y ∧ Kp L w w'
def Hp.to (d : Hd) (x : Hp) (t : Int) : Hp :=
  if t ≤ x.now then x else { x with tm := x.tm.goN (t - x.now).toNat, q := if 0 < x.tm.overN (t - x.now).toNat then ⟨x.q.d, true⟩ else x.q, s := pass d.es d.n t x.s, ro := roseTo d.es x.ro x.s (pass d.es d.n t x.s - x.s), now := t }
section
variable {w : World} {g : Nat} {d : Hd} {b : Hb} {x : Hp}
theorem hnow_any (h : HP w g d b x) : Calls Tryz.prog 15 #[.pointer (some ⟨g, 0, none⟩)] w fun e w' => e = .returned (.int .i64 x.now) ∧ w = w' := by
  have c0 := h.nw.1
  clear h
  go_enter Tryz.func15, Tryz.ntmps15
  go_wp2
  go_ret
  exact ⟨rfl, rfl⟩
set_option maxHeartbeats 4000000 in
theorem hgo_any (h : HP w g d b x) (t : Int) (ht : t ≤ 9223372036854775807) :
    Calls Tryz.prog 16 #[.pointer (some ⟨g, 0, none⟩), .int .i64 t] w (HpR (.tuple #[]) g d b (x.to d t) [g] w) := by
  have c0 := h.nw.1
  have n0 : 0 ≤ x.now := h.ok.2.2.2.2.2
  have H := Lib.hid h
  clear h
  by_cases hle : t ≤ x.now
  · have e : x.to d t = x := by unfold Hp.to; rw [if_pos hle]
    rw [e]
    clear e
    go_enter Tryz.func16, Tryz.ntmps16
    go_wp2
    first | go_end0 | refine bodyPost_ret (results_none rfl _ _ _) rfl ?_
    exact ⟨rfl, H.out, Kp.refl _ _⟩
  · have hlt : x.now < t := by omega
    have e : x.to d t = { x with tm := x.tm.goN (t - x.now).toNat, q := if 0 < x.tm.overN (t - x.now).toNat then ⟨x.q.d, true⟩ else x.q, s := pass d.es d.n t x.s, ro := roseTo d.es x.ro x.s (pass d.es d.n t x.s - x.s), now := t } := by unfold Hp.to; rw [if_neg hle]
    have hd : t - x.now ≤ 9223372036854775807 := by omega
    have hwr : IntKind.i64.wrap (t - x.now) = t - x.now := IntWalk.i64_in _ (by omega)
    obtain ⟨cs, ht1, ht2⟩ := H.out.tmr
    have HT1 := Lib.hid ht1
    have HT2 := Lib.hid ht2
    obtain ⟨N, hN⟩ : ∃ N, x.tm.overN (t - x.now).toNat = N := ⟨_, rfl⟩
    rw [hN] at e
    have HN := Lib.hid hN
    have HE := Lib.hid e
    clear e ht1 ht2 hN
    go_enter Tryz.func16, Tryz.ntmps16
    go_wp2_with fail
    refine rg_begin (S := fun w' => w'.cell? ⟨g, 22, none⟩ = some (.int .i64 x.now)) 11 #[false, false, false, false, false, false, false, false, false, false, false] (by kernel_rfl) (by kernel_rfl) (by kernel_rfl) ?_ (fun hHeld => ?_)
    · exact c0
    refine rg_take (i := 0) (d := some 14) (l := #[true, false, false, false, false, false, false, false, false, false, false]) (fuel := 10) (v := ?_) rfl (by kernel_rfl) (by kernel_rfl) (by kernel_rfl) (by kernel_rfl) (by kernel_rfl) (fun _ _ _ h => h) (by kernel_rfl) ?_ (by assumption) ?_
    rotate_left 1
    · (intro wS hSw; (try dsimp only at hSw); go_simp; try with_reducible rfl)
    try simp only [Act.put, List.setIfInBounds_toArray, List.set_cons_zero, List.set_cons_succ]
    refine rg_take (i := 1) (d := some 15) (l := #[true, true, false, false, false, false, false, false, false, false, false]) (fuel := 9) (v := ?_) rfl (by kernel_rfl) (by kernel_rfl) (by kernel_rfl) (by kernel_rfl) (by kernel_rfl) (fun _ _ _ h => h) (by kernel_rfl) ?_ (by assumption) ?_
    rotate_left 1
    · (intro wS hSw; (try dsimp only at hSw); go_simp; try with_reducible rfl)
    try simp only [Act.put, List.setIfInBounds_toArray, List.set_cons_zero, List.set_cons_succ]
    refine rg_take (i := 2) (d := some 16) (l := #[true, true, true, false, false, false, false, false, false, false, false]) (fuel := 8) (v := ?_) rfl (by kernel_rfl) (by kernel_rfl) (by kernel_rfl) (by kernel_rfl) (by kernel_rfl) (fun _ _ _ h => h) (by kernel_rfl) ?_ (by assumption) ?_
    rotate_left 1
    · (intro wS hSw; (try dsimp only at hSw); go_simp; try with_reducible rfl)
    try simp only [Act.put, List.setIfInBounds_toArray, List.set_cons_zero, List.set_cons_succ]
    refine rg_take (i := 3) (d := some 17) (l := #[true, true, true, true, false, false, false, false, false, false, false]) (fuel := 7) (v := ?_) rfl (by kernel_rfl) (by kernel_rfl) (by kernel_rfl) (by kernel_rfl) (by kernel_rfl) (fun _ _ _ h => h) (by kernel_rfl) ?_ (by assumption) ?_
    rotate_left 1
    · (intro wS hSw; (try dsimp only at hSw); go_simp; try with_reducible rfl)
    try simp only [Act.put, List.setIfInBounds_toArray, List.set_cons_zero, List.set_cons_succ]
    refine rg_take (i := 4) (d := some 18) (l := #[true, true, true, true, true, false, false, false, false, false, false]) (fuel := 6) (v := ?_) rfl (by kernel_rfl) (by kernel_rfl) (by kernel_rfl) (by kernel_rfl) (by kernel_rfl) (fun _ _ _ h => h) (by kernel_rfl) ?_ (by assumption) ?_
    rotate_left 1
    · (intro wS hSw; (try dsimp only at hSw); go_simp; try with_reducible rfl)
    try simp only [Act.put, List.setIfInBounds_toArray, List.set_cons_zero, List.set_cons_succ]
    refine rg_take (i := 5) (d := some 19) (l := #[true, true, true, true, true, true, false, false, false, false, false]) (fuel := 5) (v := ?_) rfl (by kernel_rfl) (by kernel_rfl) (by kernel_rfl) (by kernel_rfl) (by kernel_rfl) (fun _ _ _ h => h) (by kernel_rfl) ?_ (by assumption) ?_
    rotate_left 1
    · (intro wS hSw; (try dsimp only at hSw); go_simp; try with_reducible rfl)
    try simp only [Act.put, List.setIfInBounds_toArray, List.set_cons_zero, List.set_cons_succ]
    refine rg_take (i := 6) (d := some 20) (l := #[true, true, true, true, true, true, true, false, false, false, false]) (fuel := 4) (v := ?_) rfl (by kernel_rfl) (by kernel_rfl) (by kernel_rfl) (by kernel_rfl) (by kernel_rfl) (fun _ _ _ h => h) (by kernel_rfl) ?_ (by assumption) ?_
    rotate_left 1
    · (intro wS hSw; (try dsimp only at hSw); go_simp; try with_reducible rfl)
    try simp only [Act.put, List.setIfInBounds_toArray, List.set_cons_zero, List.set_cons_succ]
    refine rg_take (i := 7) (d := some 21) (l := #[true, true, true, true, true, true, true, true, false, false, false]) (fuel := 3) (v := ?_) rfl (by kernel_rfl) (by kernel_rfl) (by kernel_rfl) (by kernel_rfl) (by kernel_rfl) (fun _ _ _ h => h) (by kernel_rfl) ?_ (by assumption) ?_
    rotate_left 1
    · (intro wS hSw; (try dsimp only at hSw); go_simp; try with_reducible rfl)
    try simp only [Act.put, List.setIfInBounds_toArray, List.set_cons_zero, List.set_cons_succ]
    refine rg_take (i := 8) (d := some 22) (l := #[true, true, true, true, true, true, true, true, true, false, false]) (fuel := 2) (v := ?_) rfl (by kernel_rfl) (by kernel_rfl) (by kernel_rfl) (by kernel_rfl) (by kernel_rfl) (fun _ _ _ h => h) (by kernel_rfl) ?_ (by assumption) ?_
    rotate_left 1
    · (intro wS hSw; (try dsimp only at hSw); go_simp; try with_reducible rfl)
    try simp only [Act.put, List.setIfInBounds_toArray, List.set_cons_zero, List.set_cons_succ]
    try rw [hwr]
    refine rg_next (i := 9) (l := #[true, true, true, true, true, true, true, true, true, true, false]) (fuel := 1) (by kernel_rfl) rfl (by kernel_rfl) (by kernel_rfl) (fun K hK => ?_)
    go_simp
    (go_at_call 57)
    refine (tgo_any (HT1.out.kp (Kp.refl [] w).drew (by simp)) (t - x.now) hd).mono ?_
    rw [HN.out]
    rintro e w1 ⟨rfl, y1, y2⟩
    replace y2 : Kp [g] w w1 := ((Kp.refl [g] w).drew).trans y2 (by simp)
    have H1 := Lib.hid (HT2.out _ _ y1 y2)
    have K1 := Lib.hid y2
    have c1 := H1.out.nw.1
    dsimp only at c1
    clear y1 y2 c0 HT1 HT2
    first | (refine hK.out _ _ ?_ (fun hHeld => ?_)) | (go_wp2_with fail; refine hK.out _ _ ?_ (fun hHeld => ?_))
    · (try dsimp only); exact c1
    clear hK K
    try simp only [Act.put, List.setIfInBounds_toArray, List.set_cons_zero, List.set_cons_succ]
    refine rg_take (i := 10) (d := some 24) (l := #[true, true, true, true, true, true, true, true, true, true, true]) (fuel := 0) (v := ?_) rfl (by kernel_rfl) (by kernel_rfl) (by kernel_rfl) (by kernel_rfl) (by kernel_rfl) (fun _ _ _ h => h) (by kernel_rfl) ?_ (by assumption) ?_
    rotate_left 1
    · (intro wS hSw; (try dsimp only at hSw); go_simp; try with_reducible rfl)
    try simp only [Act.put, List.setIfInBounds_toArray, List.set_cons_zero, List.set_cons_succ]
    refine wpAnyH_done (by kernel_rfl) ?_ _
    clear hHeld c1
    obtain ⟨y, hy⟩ : ∃ y : Hp, { x with tm := x.tm.goN (t - x.now).toNat, q := if 0 < N then ⟨x.q.d, true⟩ else x.q } = y := ⟨_, rfl⟩
    have HY := Lib.hid hy
    have fin : ∀ w2 w3, HP w2 g d b y → Kp [g] w w2 → HLnR (hpX b y) (.tuple #[]) g d.n d.es (pass d.es d.n t y.s) (roseTo d.es y.ro y.s (pass d.es d.n t y.s - y.s)) w2 (.returned (.tuple #[])) w3 →
        HP w3 g d b { y with s := pass d.es d.n t y.s, ro := roseTo d.es y.ro y.s (pass d.es d.n t y.s - y.s) } ∧ Kp [g] w w3 := fun w2 w3 h2 k2 h3 => by
      obtain ⟨_, h4, k4⟩ := h3
      exact ⟨h2.lns.2 _ _ _ h4 k4, k2.trans k4 (by simp)⟩
    have FIN := Lib.hid fin
    clear hy fin
    by_cases h0 : 0 < N
    · have hp : (0 : Int) < (N : Int) := by omega
      go_wp2_with fail
      obtain ⟨cs2, q1, q2⟩ := H1.out.irq
      have Q2 := Lib.hid q2
      refine (qover_any q1).mono ?_
      rintro e w2 ⟨rfl, y1, y2⟩
      have H2 : Hid (HP w2 g d b y) := Lib.hid (by have := Q2.out _ _ y1 y2; rw [← HY.out, if_pos h0]; exact this)
      have K2 := Lib.hid (K1.out.trans y2 (by simp))
      clear y1 y2 q1 q2 Q2 H1 K1
      go_wp2_with fail
      refine (hto_any H2.out.lns.1 H2.out.gd t).mono ?_
      rintro e w3 h3
      obtain rfl := h3.1
      have F := Lib.hid (FIN.out _ _ H2.out K2.out h3)
      clear h3 H2 K2 FIN
      obtain ⟨c2, f2, _⟩ := F.out.1.nw
      go_wp2
      first | go_end0 | refine bodyPost_ret (results_none rfl _ _ _) rfl ?_
      obtain ⟨r1, r2⟩ := F.out.1.nw.2.2 t (by omega)
      refine ⟨rfl, ?_, F.out.2.trans r2 (by simp)⟩
      rw [HE.out]
      have := HY.out
      subst this
      exact r1
    · have hp : ¬ (0 : Int) < (N : Int) := by omega
      have H2 : Hid (HP w1 g d b y) := Lib.hid (by have := H1.out; rw [← HY.out, if_neg h0]; exact this)
      have K2 := K1
      clear H1 K1
      go_wp2_with fail
      refine (hto_any H2.out.lns.1 H2.out.gd t).mono ?_
      rintro e w3 h3
      obtain rfl := h3.1
      have F := Lib.hid (FIN.out _ _ H2.out K2.out h3)
      clear h3 H2 K2 FIN
      obtain ⟨c2, f2, _⟩ := F.out.1.nw
      go_wp2
      first | go_end0 | refine bodyPost_ret (results_none rfl _ _ _) rfl ?_
      obtain ⟨r1, r2⟩ := F.out.1.nw.2.2 t (by omega)
      refine ⟨rfl, ?_, F.out.2.trans r2 (by simp)⟩
      rw [HE.out]
      have := HY.out
      subst this
      exact r1
end
end Go.Proofs.YtcnjekballnncaaGreat
namespace Go.Proofs.YtcnjekballnncaaGreat
open Go.RowKit
set_option linter.unusedVariables false
set_option linter.unusedSimpArgs false
set_option maxRecDepth 100000
def Hp.ch (d : Hd) (x : Hp) (m : Bool) : Int := chI x.q.d x.q.due (upTo d.es x.s 0) x.ro (upTo d.es x.s 2) (upTo d.es x.s 3) m
def Hp.en (x : Hp) (k : Int) : Hp := if k = 2 then { x with ro := false } else if k = 1 then { x with tm := x.tm.wr 1 0, q := (x.q.wr 2 0).wr 3 0 } else x
theorem hup_v {X : Nat → Value} {w : World} {g n : Nat} {es : Nat → Iib} {s : Nat} {r : Bool} (h : LNH X w g n es s r) (j : Nat) (hj : j < 4) {k : Int} (hk : (j : Int) = k) {u : Bool} (e : upTo es s k = u) :
    Calls Tryz.prog 61 #[.pointer (some ⟨g, 4, none⟩), .int .u8 k] w fun e w' => e = .returned (.bool u) ∧ w = w' := by
  have := hup_any h j (by omega)
  unfold upV at this
  rw [if_pos hj, hk, e] at this
  exact this
theorem hrose_v {X : Nat → Value} {w : World} {g n : Nat} {es : Nat → Iib} {s : Nat} {r : Bool} (h : LNH X w g n es s r) {u : Bool} (e : r = u) :
    Calls Tryz.prog 54 #[.pointer (some ⟨g, 4, none⟩)] w fun e w' => e = .returned (.bool u) ∧ w = w' := e ▸ hrose_any h
theorem qchoose_iv {w : World} {g : Nat} {T : TypeId} {cs : Array Value} {o : Nat} {s : Iq} (h : IQ w g T cs o s) {u0 u1 u2 u3 m : Bool} {x : Int} (e : chI s.d s.due u0 u1 u2 u3 m = x) :
    Calls Tryz.prog 60 #[.pointer (some ⟨g, o, none⟩), .agg #[.bool u0, .bool u1, .bool u2, .bool u3], .bool m] w fun e w' => e = .returned (.int .u8 x) ∧ Below w.heap.size w w' := e ▸ qchoose_any h u0 u1 u2 u3 m
section
variable {w : World} {g : Nat} {d : Hd} {b : Hb} {x : Hp}
set_option maxHeartbeats 4000000 in
theorem hchoose_any (h : HP w g d b x) (m : Bool) :
    Calls Tryz.prog 17 #[.pointer (some ⟨g, 0, none⟩), .bool m] w fun e w' => e = .returned (.int .u8 (x.ch d m)) ∧ Below w.heap.size w w' := by
  have H := Lib.hid (h.kp0 (Kp.refl _ _).drew)
  obtain ⟨u0, h0⟩ : ∃ u, upTo d.es x.s 0 = u := ⟨_, rfl⟩
  obtain ⟨u2, h2⟩ : ∃ u, upTo d.es x.s 2 = u := ⟨_, rfl⟩
  obtain ⟨u3, h3⟩ : ∃ u, upTo d.es x.s 3 = u := ⟨_, rfl⟩
  obtain ⟨ro, hr⟩ : ∃ u, x.ro = u := ⟨_, rfl⟩
  obtain ⟨v, hv⟩ : ∃ v, x.ch d m = v := ⟨_, rfl⟩
  have hv2 : chI x.q.d x.q.due u0 ro u2 u3 m = v := by rw [← hv, ← h0, ← h2, ← h3, ← hr]; rfl
  rw [hv]
  have H0 := Lib.hid h0
  have H2 := Lib.hid h2
  have H3 := Lib.hid h3
  have HR := Lib.hid hr
  have HV := Lib.hid hv2
  clear h h0 h2 h3 hr hv hv2
  go_enter Tryz.func17, Tryz.ntmps17
  go_wp2_with fail
  refine rg_begin (S := fun w' => True) 23 #[false, false, false, false, false, false, false, false, false, false, false, false, false, false, false, false, false, false, false, false, false, false, false] (by kernel_rfl) (by kernel_rfl) (by kernel_rfl) ?_ (fun hHeld => ?_)
  · exact trivial
  refine rg_take (i := 0) (d := some 7) (l := #[true, false, false, false, false, false, false, false, false, false, false, false, false, false, false, false, false, false, false, false, false, false, false]) (fuel := 22) (v := ?_) rfl (by kernel_rfl) (by kernel_rfl) (by kernel_rfl) (by kernel_rfl) (by kernel_rfl) (fun _ _ _ h => h) (by kernel_rfl) ?_ (by assumption) ?_
  rotate_left 1
  · (intro wS hSw; (try dsimp only at hSw); go_simp; try with_reducible rfl)
  try simp only [Act.put, List.setIfInBounds_toArray, List.set_cons_zero, List.set_cons_succ]
  refine rg_take (i := 1) (d := some 8) (l := #[true, true, false, false, false, false, false, false, false, false, false, false, false, false, false, false, false, false, false, false, false, false, false]) (fuel := 21) (v := ?_) rfl (by kernel_rfl) (by kernel_rfl) (by kernel_rfl) (by kernel_rfl) (by kernel_rfl) (fun _ _ _ h => h) (by kernel_rfl) ?_ (by assumption) ?_
  rotate_left 1
  · (intro wS hSw; (try dsimp only at hSw); go_simp; try with_reducible rfl)
  try simp only [Act.put, List.setIfInBounds_toArray, List.set_cons_zero, List.set_cons_succ]
  refine rg_take (i := 2) (d := some 9) (l := #[true, true, true, false, false, false, false, false, false, false, false, false, false, false, false, false, false, false, false, false, false, false, false]) (fuel := 20) (v := ?_) rfl (by kernel_rfl) (by kernel_rfl) (by kernel_rfl) (by kernel_rfl) (by kernel_rfl) (fun _ _ _ h => h) (by kernel_rfl) ?_ (by assumption) ?_
  rotate_left 1
  · (intro wS hSw; (try dsimp only at hSw); go_simp; try with_reducible rfl)
  try simp only [Act.put, List.setIfInBounds_toArray, List.set_cons_zero, List.set_cons_succ]
  refine rg_take (i := 3) (d := some 10) (l := #[true, true, true, true, false, false, false, false, false, false, false, false, false, false, false, false, false, false, false, false, false, false, false]) (fuel := 19) (v := ?_) rfl (by kernel_rfl) (by kernel_rfl) (by kernel_rfl) (by kernel_rfl) (by kernel_rfl) (fun _ _ _ h => h) (by kernel_rfl) ?_ (by assumption) ?_
  rotate_left 1
  · (intro wS hSw; (try dsimp only at hSw); go_simp; try with_reducible rfl)
  try simp only [Act.put, List.setIfInBounds_toArray, List.set_cons_zero, List.set_cons_succ]
  refine rg_take (i := 4) (d := some 11) (l := #[true, true, true, true, true, false, false, false, false, false, false, false, false, false, false, false, false, false, false, false, false, false, false]) (fuel := 18) (v := ?_) rfl (by kernel_rfl) (by kernel_rfl) (by kernel_rfl) (by kernel_rfl) (by kernel_rfl) (fun _ _ _ h => h) (by kernel_rfl) ?_ (by assumption) ?_
  rotate_left 1
  · (intro wS hSw; (try dsimp only at hSw); go_simp; try with_reducible rfl)
  try simp only [Act.put, List.setIfInBounds_toArray, List.set_cons_zero, List.set_cons_succ]
  refine rg_take (i := 5) (d := some 12) (l := #[true, true, true, true, true, true, false, false, false, false, false, false, false, false, false, false, false, false, false, false, false, false, false]) (fuel := 17) (v := ?_) rfl (by kernel_rfl) (by kernel_rfl) (by kernel_rfl) (by kernel_rfl) (by kernel_rfl) (fun _ _ _ h => h) (by kernel_rfl) ?_ (by assumption) ?_
  rotate_left 1
  · (intro wS hSw; (try dsimp only at hSw); go_simp; try with_reducible rfl)
  try simp only [Act.put, List.setIfInBounds_toArray, List.set_cons_zero, List.set_cons_succ]
  refine rg_take (i := 7) (d := some 14) (l := #[true, true, true, true, true, true, false, true, false, false, false, false, false, false, false, false, false, false, false, false, false, false, false]) (fuel := 16) (v := ?_) rfl (by kernel_rfl) (by kernel_rfl) (by kernel_rfl) (by kernel_rfl) (by kernel_rfl) (fun _ _ _ h => h) (by kernel_rfl) ?_ (by assumption) ?_
  rotate_left 1
  · (intro wS hSw; (try dsimp only at hSw); go_simp; try with_reducible rfl)
  try simp only [Act.put, List.setIfInBounds_toArray, List.set_cons_zero, List.set_cons_succ]
  refine rg_take (i := 8) (d := some 15) (l := #[true, true, true, true, true, true, false, true, true, false, false, false, false, false, false, false, false, false, false, false, false, false, false]) (fuel := 15) (v := ?_) rfl (by kernel_rfl) (by kernel_rfl) (by kernel_rfl) (by kernel_rfl) (by kernel_rfl) (fun _ _ _ h => h) (by kernel_rfl) ?_ (by assumption) ?_
  rotate_left 1
  · (intro wS hSw; (try dsimp only at hSw); go_simp; try with_reducible rfl)
  try simp only [Act.put, List.setIfInBounds_toArray, List.set_cons_zero, List.set_cons_succ]
  refine rg_take (i := 9) (d := some 16) (l := #[true, true, true, true, true, true, false, true, true, true, false, false, false, false, false, false, false, false, false, false, false, false, false]) (fuel := 14) (v := ?_) rfl (by kernel_rfl) (by kernel_rfl) (by kernel_rfl) (by kernel_rfl) (by kernel_rfl) (fun _ _ _ h => h) (by kernel_rfl) ?_ (by assumption) ?_
  rotate_left 1
  · (intro wS hSw; (try dsimp only at hSw); go_simp; try with_reducible rfl)
  try simp only [Act.put, List.setIfInBounds_toArray, List.set_cons_zero, List.set_cons_succ]
  refine rg_take (i := 11) (d := some 18) (l := #[true, true, true, true, true, true, false, true, true, true, false, true, false, false, false, false, false, false, false, false, false, false, false]) (fuel := 13) (v := ?_) rfl (by kernel_rfl) (by kernel_rfl) (by kernel_rfl) (by kernel_rfl) (by kernel_rfl) (fun _ _ _ h => h) (by kernel_rfl) ?_ (by assumption) ?_
  rotate_left 1
  · (intro wS hSw; (try dsimp only at hSw); go_simp; try with_reducible rfl)
  try simp only [Act.put, List.setIfInBounds_toArray, List.set_cons_zero, List.set_cons_succ]
  refine rg_take (i := 12) (d := some 19) (l := #[true, true, true, true, true, true, false, true, true, true, false, true, true, false, false, false, false, false, false, false, false, false, false]) (fuel := 12) (v := ?_) rfl (by kernel_rfl) (by kernel_rfl) (by kernel_rfl) (by kernel_rfl) (by kernel_rfl) (fun _ _ _ h => h) (by kernel_rfl) ?_ (by assumption) ?_
  rotate_left 1
  · (intro wS hSw; (try dsimp only at hSw); go_simp; try with_reducible rfl)
  try simp only [Act.put, List.setIfInBounds_toArray, List.set_cons_zero, List.set_cons_succ]
  refine rg_take (i := 13) (d := some 20) (l := #[true, true, true, true, true, true, false, true, true, true, false, true, true, true, false, false, false, false, false, false, false, false, false]) (fuel := 11) (v := ?_) rfl (by kernel_rfl) (by kernel_rfl) (by kernel_rfl) (by kernel_rfl) (by kernel_rfl) (fun _ _ _ h => h) (by kernel_rfl) ?_ (by assumption) ?_
  rotate_left 1
  · (intro wS hSw; (try dsimp only at hSw); go_simp; try with_reducible rfl)
  try simp only [Act.put, List.setIfInBounds_toArray, List.set_cons_zero, List.set_cons_succ]
  refine rg_take (i := 15) (d := some 22) (l := #[true, true, true, true, true, true, false, true, true, true, false, true, true, true, false, true, false, false, false, false, false, false, false]) (fuel := 10) (v := ?_) rfl (by kernel_rfl) (by kernel_rfl) (by kernel_rfl) (by kernel_rfl) (by kernel_rfl) (fun _ _ _ h => h) (by kernel_rfl) ?_ (by assumption) ?_
  rotate_left 1
  · (intro wS hSw; (try dsimp only at hSw); go_simp; try with_reducible rfl)
  try simp only [Act.put, List.setIfInBounds_toArray, List.set_cons_zero, List.set_cons_succ]
  refine rg_take (i := 16) (d := some 23) (l := #[true, true, true, true, true, true, false, true, true, true, false, true, true, true, false, true, true, false, false, false, false, false, false]) (fuel := 9) (v := ?_) rfl (by kernel_rfl) (by kernel_rfl) (by kernel_rfl) (by kernel_rfl) (by kernel_rfl) (fun _ _ _ h => h) (by kernel_rfl) ?_ (by assumption) ?_
  rotate_left 1
  · (intro wS hSw; (try dsimp only at hSw); go_simp; try with_reducible rfl)
  try simp only [Act.put, List.setIfInBounds_toArray, List.set_cons_zero, List.set_cons_succ]
  refine rg_take (i := 17) (d := some 24) (l := #[true, true, true, true, true, true, false, true, true, true, false, true, true, true, false, true, true, true, false, false, false, false, false]) (fuel := 8) (v := ?_) rfl (by kernel_rfl) (by kernel_rfl) (by kernel_rfl) (by kernel_rfl) (by kernel_rfl) (fun _ _ _ h => h) (by kernel_rfl) ?_ (by assumption) ?_
  rotate_left 1
  · (intro wS hSw; (try dsimp only at hSw); go_simp; try with_reducible rfl)
  try simp only [Act.put, List.setIfInBounds_toArray, List.set_cons_zero, List.set_cons_succ]
  refine rg_take (i := 20) (d := some 27) (l := #[true, true, true, true, true, true, false, true, true, true, false, true, true, true, false, true, true, true, false, false, true, false, false]) (fuel := 7) (v := ?_) rfl (by kernel_rfl) (by kernel_rfl) (by kernel_rfl) (by kernel_rfl) (by kernel_rfl) (fun _ _ _ h => h) (by kernel_rfl) ?_ (by assumption) ?_
  rotate_left 1
  · (intro wS hSw; (try dsimp only at hSw); go_simp; try with_reducible rfl)
  try simp only [Act.put, List.setIfInBounds_toArray, List.set_cons_zero, List.set_cons_succ]
  refine rg_next (i := 6) (l := #[true, true, true, true, true, true, true, true, true, true, false, true, true, true, false, true, true, true, false, false, true, false, false]) (fuel := 6) (by kernel_rfl) rfl (by kernel_rfl) (by kernel_rfl) (fun K hK => ?_)
  go_simp
  (go_at_call 61)
  refine (hup_v H.out.lns.1 0 (by decide) rfl H0.out).mono ?_
  rintro e w' ⟨rfl, rfl⟩
  first | (refine hK.out _ _ ?_ (fun hHeld => ?_)) | (go_wp2_with fail; refine hK.out _ _ ?_ (fun hHeld => ?_))
  · (try dsimp only); try exact trivial
  clear hK K
  try simp only [Act.put, List.setIfInBounds_toArray, List.set_cons_zero, List.set_cons_succ]
  refine rg_next (i := 10) (l := #[true, true, true, true, true, true, true, true, true, true, true, true, true, true, false, true, true, true, false, false, true, false, false]) (fuel := 5) (by kernel_rfl) rfl (by kernel_rfl) (by kernel_rfl) (fun K hK => ?_)
  go_simp
  (go_at_call 54)
  refine (hrose_v H.out.lns.1 HR.out).mono ?_
  rintro e w' ⟨rfl, rfl⟩
  first | (refine hK.out _ _ ?_ (fun hHeld => ?_)) | (go_wp2_with fail; refine hK.out _ _ ?_ (fun hHeld => ?_))
  · (try dsimp only); try exact trivial
  clear hK K
  try simp only [Act.put, List.setIfInBounds_toArray, List.set_cons_zero, List.set_cons_succ]
  refine rg_next (i := 14) (l := #[true, true, true, true, true, true, true, true, true, true, true, true, true, true, true, true, true, true, false, false, true, false, false]) (fuel := 4) (by kernel_rfl) rfl (by kernel_rfl) (by kernel_rfl) (fun K hK => ?_)
  go_simp
  (go_at_call 61)
  refine (hup_v H.out.lns.1 2 (by decide) rfl H2.out).mono ?_
  rintro e w' ⟨rfl, rfl⟩
  first | (refine hK.out _ _ ?_ (fun hHeld => ?_)) | (go_wp2_with fail; refine hK.out _ _ ?_ (fun hHeld => ?_))
  · (try dsimp only); try exact trivial
  clear hK K
  try simp only [Act.put, List.setIfInBounds_toArray, List.set_cons_zero, List.set_cons_succ]
  refine rg_next (i := 18) (l := #[true, true, true, true, true, true, true, true, true, true, true, true, true, true, true, true, true, true, true, false, true, false, false]) (fuel := 3) (by kernel_rfl) rfl (by kernel_rfl) (by kernel_rfl) (fun K hK => ?_)
  go_simp
  (go_at_call 61)
  refine (hup_v H.out.lns.1 3 (by decide) rfl H3.out).mono ?_
  rintro e w' ⟨rfl, rfl⟩
  first | (refine hK.out _ _ ?_ (fun hHeld => ?_)) | (go_wp2_with fail; refine hK.out _ _ ?_ (fun hHeld => ?_))
  · (try dsimp only); try exact trivial
  clear hK K
  try simp only [Act.put, List.setIfInBounds_toArray, List.set_cons_zero, List.set_cons_succ]
  refine rg_take (i := 19) (d := some 26) (l := #[true, true, true, true, true, true, true, true, true, true, true, true, true, true, true, true, true, true, true, true, true, false, false]) (fuel := 2) (v := ?_) rfl (by kernel_rfl) (by kernel_rfl) (by kernel_rfl) (by kernel_rfl) (by kernel_rfl) (fun _ _ _ h => h) (by kernel_rfl) ?_ (by assumption) ?_
  rotate_left 1
  · (intro wS hSw; (try dsimp only at hSw); go_simp; try with_reducible rfl)
  try simp only [Act.put, List.setIfInBounds_toArray, List.set_cons_zero, List.set_cons_succ]
  refine rg_next (i := 21) (l := #[true, true, true, true, true, true, true, true, true, true, true, true, true, true, true, true, true, true, true, true, true, true, false]) (fuel := 1) (by kernel_rfl) rfl (by kernel_rfl) (by kernel_rfl) (fun K hK => ?_)
  go_simp
  (go_at_call 60)
  obtain ⟨cs, q1, _⟩ := H.out.irq
  refine (qchoose_iv q1 HV.out).mono ?_
  rintro e w1 ⟨rfl, b1⟩
  have B1 : Hid (Below w.heap.size w w1) := Lib.hid ((Below.refl _ w).drew.trans b1)
  clear b1 q1
  first | (refine hK.out _ _ ?_ (fun hHeld => ?_)) | (go_wp2_with fail; refine hK.out _ _ ?_ (fun hHeld => ?_))
  · (try dsimp only); try exact trivial
  clear hK K
  try simp only [Act.put, List.setIfInBounds_toArray, List.set_cons_zero, List.set_cons_succ]
  refine rg_take (i := 22) (d := some 4) (l := #[true, true, true, true, true, true, true, true, true, true, true, true, true, true, true, true, true, true, true, true, true, true, true]) (fuel := 0) (v := ?_) rfl (by kernel_rfl) (by kernel_rfl) (by kernel_rfl) (by kernel_rfl) (by kernel_rfl) (fun _ _ _ h => h) (by kernel_rfl) ?_ (by assumption) ?_
  rotate_left 1
  · (intro wS hSw; (try dsimp only at hSw); go_simp; try with_reducible rfl)
  try simp only [Act.put, List.setIfInBounds_toArray, List.set_cons_zero, List.set_cons_succ]
  refine wpAnyH_done (by kernel_rfl) ?_ _
  go_wp2_with fail
  go_ret
  exact ⟨rfl, B1.out⟩
theorem hentered_any (h : HP w g d b x) (k : Int) (k0 : 0 ≤ k) (k1 : k ≤ 255) :
    Calls Tryz.prog 21 #[.pointer (some ⟨g, 0, none⟩), .int .u8 k] w (HpR (.tuple #[]) g d b (x.en k) [g] w) := by
  have H := Lib.hid h
  clear h
  by_cases h2 : k = 2
  · subst h2
    have e : x.en 2 = { x with ro := false } := by unfold Hp.en; rw [if_pos rfl]
    rw [e]
    clear e
    go_enter Tryz.func21, Tryz.ntmps21
    go_wp2_with fail
    refine (htake_any H.out.lns.1).mono ?_
    rintro e w1 ⟨rfl, y1, y2⟩
    have Y := Lib.hid (H.out.lns.2 _ _ _ y1 y2)
    have K := Lib.hid y2
    clear y1 y2 H
    go_wp2
    first | go_end0 | refine bodyPost_ret (results_none rfl _ _ _) rfl ?_
    exact ⟨rfl, Y.out, K.out⟩
  · have n2 : (k == 2) = false := by simpa using h2
    by_cases h1 : k = 1
    · subst h1
      have e : x.en 1 = { x with tm := x.tm.wr 1 0, q := (x.q.wr 2 0).wr 3 0 } := by unfold Hp.en; rw [if_neg (by decide), if_pos rfl]
      rw [e]
      clear e h2 n2
      go_enter Tryz.func21, Tryz.ntmps21
      go_wp2_with fail
      obtain ⟨cs, q1, q2⟩ := H.out.tmr
      refine (twrite_any q1 1 0 (by decide) (by decide)).mono ?_
      rintro e w1 ⟨rfl, y1, y2⟩
      have Y := Lib.hid (q2 _ _ y1 y2)
      have K := Lib.hid y2
      clear y1 y2 H q1 q2 cs
      go_wp2_with fail
      obtain ⟨cs, q1, q2⟩ := Y.out.irq
      refine (qwrite_any q1 2 0 (by decide) (by decide)).mono ?_
      rintro e w2 ⟨rfl, y1, y2⟩
      have Y2 := Lib.hid (q2 _ _ y1 y2)
      have K2 := Lib.hid (K.out.trans y2 (by simp))
      clear y1 y2 Y K q1 q2 cs
      go_wp2_with fail
      obtain ⟨cs, q1, q2⟩ := Y2.out.irq
      refine (qwrite_any q1 3 0 (by decide) (by decide)).mono ?_
      rintro e w3 ⟨rfl, y1, y2⟩
      have Y3 := Lib.hid (q2 _ _ y1 y2)
      have K3 := Lib.hid (K2.out.trans y2 (by simp))
      clear y1 y2 Y2 K2 q1 q2 cs
      go_wp2
      first | go_end0 | refine bodyPost_ret (results_none rfl _ _ _) rfl ?_
      exact ⟨rfl, Y3.out, K3.out⟩
    · have n1 : (k == 1) = false := by simpa using h1
      have e : x.en k = x := by unfold Hp.en; rw [if_neg h2, if_neg h1]
      rw [e]
      clear e
      go_enter Tryz.func21, Tryz.ntmps21
      go_wp2
      first | go_end0 | refine bodyPost_ret (results_none rfl _ _ _) rfl ?_
      exact ⟨rfl, H.out, Kp.refl _ _⟩
end
end Go.Proofs.YtcnjekballnncaaGreat
