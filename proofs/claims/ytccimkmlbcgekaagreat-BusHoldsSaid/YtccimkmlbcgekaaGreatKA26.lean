/-
  Texts of these proofs, one behind the other: Hard2, Hard3, Hard7.
-/
import Derived.Test.YtccimkmlbcgekaaGreatKA25
import Derived.Deep.Cut
import Derived.Deep.CutRange
import Derived.Test.YtccimkmlbcgekaaGreatKA06
namespace Go.Proofs.YtccimkmlbcgekaaGreat
open Go.RowKit
set_option linter.unusedVariables false
set_option linter.unusedSimpArgs false
set_option maxRecDepth 100000
def HpR (v : Value) (g : Nat) (d : Hd) (b : Hb) (y : Hp) (L : List Nat) (w : World) (e : Ending) (w' : World) : Prop := e = .returned v ∧ HP w' g d b y ∧ Kp L w w'
def Hp.to (d : Hd) (x : Hp) (t : Int) : Hp :=
  if t ≤ x.now then x else { x with tm := x.tm.goN (t - x.now).toNat, q := if 0 < x.tm.overN (t - x.now).toNat then ⟨x.q.d, true⟩ else x.q, s := pass d.es d.n t x.s, ro := roseTo d.es x.ro x.s (pass d.es d.n t x.s - x.s), now := t }
section
variable {w : World} {g : Nat} {d : Hd} {b : Hb} {x : Hp}
set_option maxHeartbeats 4000000 in
theorem hgo_any (h : HP w g d b x) (t : Int) (ht : t ≤ 9223372036854775807) :
    Calls Tryz.prog 125 #[.pointer (some ⟨g, 0, none⟩), .int .i64 t] w (HpR (.tuple #[]) g d b (x.to d t) [g] w) := by
  have c0 := h.nw.1
  have n0 : 0 ≤ x.now := h.ok.2.2.2.2.2
  have H := Lib.hid h
  clear h
  by_cases hle : t ≤ x.now
  · have e : x.to d t = x := by unfold Hp.to; rw [if_pos hle]
    rw [e]
    clear e
    go_enter Tryz.func125, Tryz.ntmps125
    go_wp2
    first | go_end0 | refine bodyPost_ret (results_none rfl _ _ _) rfl ?_
    exact ⟨rfl, H.out, Kp.refl _ _⟩
  · have hlt : x.now < t := by omega
    have e : x.to d t = { x with tm := x.tm.goN (t - x.now).toNat, q := if 0 < x.tm.overN (t - x.now).toNat then ⟨x.q.d, true⟩ else x.q, s := pass d.es d.n t x.s, ro := roseTo d.es x.ro x.s (pass d.es d.n t x.s - x.s), now := t } := by unfold Hp.to; rw [if_neg hle]
    have hd : t - x.now ≤ 9223372036854775807 := by omega
    have hwr : IntKind.i64.wrap (t - x.now) = t - x.now := IntWalk.i64_in _ (by omega)
    obtain ⟨cs, ht1, ht2⟩ := H.out.tmr
    have HT1 := Lib.hid ht1
    have HT2 := Lib.hid ht2
    obtain ⟨N, hN⟩ : ∃ N, x.tm.overN (t - x.now).toNat = N := ⟨_, rfl⟩
    rw [hN] at e
    have HN := Lib.hid hN
    have HE := Lib.hid e
    clear e ht1 ht2 hN
    go_enter Tryz.func125, Tryz.ntmps125
    go_wp2_with fail
    refine rg_begin (S := fun w' => w'.cell? ⟨g, 22, none⟩ = some (.int .i64 x.now)) 11 #[false, false, false, false, false, false, false, false, false, false, false] (by kernel_rfl) (by kernel_rfl) (by kernel_rfl) ?_ (fun hHeld => ?_)
    · exact c0
    refine rg_take (i := 0) (d := some 14) (l := #[true, false, false, false, false, false, false, false, false, false, false]) (fuel := 10) (v := ?_) rfl (by kernel_rfl) (by kernel_rfl) (by kernel_rfl) (by kernel_rfl) (by kernel_rfl) (fun _ _ _ h => h) (by kernel_rfl) ?_ (by assumption) ?_
    rotate_left 1
    · (intro wS hSw; (try dsimp only at hSw); go_simp; try with_reducible rfl)
    try simp only [Act.put, List.setIfInBounds_toArray, List.set_cons_zero, List.set_cons_succ]
    refine rg_take (i := 1) (d := some 15) (l := #[true, true, false, false, false, false, false, false, false, false, false]) (fuel := 9) (v := ?_) rfl (by kernel_rfl) (by kernel_rfl) (by kernel_rfl) (by kernel_rfl) (by kernel_rfl) (fun _ _ _ h => h) (by kernel_rfl) ?_ (by assumption) ?_
    rotate_left 1
    · (intro wS hSw; (try dsimp only at hSw); go_simp; try with_reducible rfl)
    try simp only [Act.put, List.setIfInBounds_toArray, List.set_cons_zero, List.set_cons_succ]
    refine rg_take (i := 2) (d := some 16) (l := #[true, true, true, false, false, false, false, false, false, false, false]) (fuel := 8) (v := ?_) rfl (by kernel_rfl) (by kernel_rfl) (by kernel_rfl) (by kernel_rfl) (by kernel_rfl) (fun _ _ _ h => h) (by kernel_rfl) ?_ (by assumption) ?_
    rotate_left 1
    · (intro wS hSw; (try dsimp only at hSw); go_simp; try with_reducible rfl)
    try simp only [Act.put, List.setIfInBounds_toArray, List.set_cons_zero, List.set_cons_succ]
    refine rg_take (i := 3) (d := some 17) (l := #[true, true, true, true, false, false, false, false, false, false, false]) (fuel := 7) (v := ?_) rfl (by kernel_rfl) (by kernel_rfl) (by kernel_rfl) (by kernel_rfl) (by kernel_rfl) (fun _ _ _ h => h) (by kernel_rfl) ?_ (by assumption) ?_
    rotate_left 1
    · (intro wS hSw; (try dsimp only at hSw); go_simp; try with_reducible rfl)
    try simp only [Act.put, List.setIfInBounds_toArray, List.set_cons_zero, List.set_cons_succ]
    refine rg_take (i := 4) (d := some 18) (l := #[true, true, true, true, true, false, false, false, false, false, false]) (fuel := 6) (v := ?_) rfl (by kernel_rfl) (by kernel_rfl) (by kernel_rfl) (by kernel_rfl) (by kernel_rfl) (fun _ _ _ h => h) (by kernel_rfl) ?_ (by assumption) ?_
    rotate_left 1
    · (intro wS hSw; (try dsimp only at hSw); go_simp; try with_reducible rfl)
    try simp only [Act.put, List.setIfInBounds_toArray, List.set_cons_zero, List.set_cons_succ]
    refine rg_take (i := 5) (d := some 19) (l := #[true, true, true, true, true, true, false, false, false, false, false]) (fuel := 5) (v := ?_) rfl (by kernel_rfl) (by kernel_rfl) (by kernel_rfl) (by kernel_rfl) (by kernel_rfl) (fun _ _ _ h => h) (by kernel_rfl) ?_ (by assumption) ?_
    rotate_left 1
    · (intro wS hSw; (try dsimp only at hSw); go_simp; try with_reducible rfl)
    try simp only [Act.put, List.setIfInBounds_toArray, List.set_cons_zero, List.set_cons_succ]
    refine rg_take (i := 6) (d := some 20) (l := #[true, true, true, true, true, true, true, false, false, false, false]) (fuel := 4) (v := ?_) rfl (by kernel_rfl) (by kernel_rfl) (by kernel_rfl) (by kernel_rfl) (by kernel_rfl) (fun _ _ _ h => h) (by kernel_rfl) ?_ (by assumption) ?_
    rotate_left 1
    · (intro wS hSw; (try dsimp only at hSw); go_simp; try with_reducible rfl)
    try simp only [Act.put, List.setIfInBounds_toArray, List.set_cons_zero, List.set_cons_succ]
    refine rg_take (i := 7) (d := some 21) (l := #[true, true, true, true, true, true, true, true, false, false, false]) (fuel := 3) (v := ?_) rfl (by kernel_rfl) (by kernel_rfl) (by kernel_rfl) (by kernel_rfl) (by kernel_rfl) (fun _ _ _ h => h) (by kernel_rfl) ?_ (by assumption) ?_
    rotate_left 1
    · (intro wS hSw; (try dsimp only at hSw); go_simp; try with_reducible rfl)
    try simp only [Act.put, List.setIfInBounds_toArray, List.set_cons_zero, List.set_cons_succ]
    refine rg_take (i := 8) (d := some 22) (l := #[true, true, true, true, true, true, true, true, true, false, false]) (fuel := 2) (v := ?_) rfl (by kernel_rfl) (by kernel_rfl) (by kernel_rfl) (by kernel_rfl) (by kernel_rfl) (fun _ _ _ h => h) (by kernel_rfl) ?_ (by assumption) ?_
    rotate_left 1
    · (intro wS hSw; (try dsimp only at hSw); go_simp; try with_reducible rfl)
    try simp only [Act.put, List.setIfInBounds_toArray, List.set_cons_zero, List.set_cons_succ]
    try rw [hwr]
    refine rg_next (i := 9) (l := #[true, true, true, true, true, true, true, true, true, true, false]) (fuel := 1) (by kernel_rfl) rfl (by kernel_rfl) (by kernel_rfl) (fun K hK => ?_)
    go_simp
    (go_at_call 165)
    refine (tgo_any (HT1.out.kp (Kp.refl [] w).drew (by simp)) (t - x.now) hd).mono ?_
    rw [HN.out]
    rintro e w1 ⟨rfl, y1, y2⟩
    replace y2 : Kp [g] w w1 := ((Kp.refl [g] w).drew).trans y2 (by simp)
    have H1 := Lib.hid (HT2.out _ _ y1 y2)
    have K1 := Lib.hid y2
    have c1 := H1.out.nw.1
    dsimp only at c1
    clear y1 y2 c0 HT1 HT2
    first | (refine hK.out _ _ ?_ (fun hHeld => ?_)) | (go_wp2_with fail; refine hK.out _ _ ?_ (fun hHeld => ?_))
    · (try dsimp only); exact c1
    clear hK K
    try simp only [Act.put, List.setIfInBounds_toArray, List.set_cons_zero, List.set_cons_succ]
    refine rg_take (i := 10) (d := some 24) (l := #[true, true, true, true, true, true, true, true, true, true, true]) (fuel := 0) (v := ?_) rfl (by kernel_rfl) (by kernel_rfl) (by kernel_rfl) (by kernel_rfl) (by kernel_rfl) (fun _ _ _ h => h) (by kernel_rfl) ?_ (by assumption) ?_
    rotate_left 1
    · (intro wS hSw; (try dsimp only at hSw); go_simp; try with_reducible rfl)
    try simp only [Act.put, List.setIfInBounds_toArray, List.set_cons_zero, List.set_cons_succ]
    refine wpAnyH_done (by kernel_rfl) ?_ _
    clear hHeld c1
    obtain ⟨y, hy⟩ : ∃ y : Hp, { x with tm := x.tm.goN (t - x.now).toNat, q := if 0 < N then ⟨x.q.d, true⟩ else x.q } = y := ⟨_, rfl⟩
    have HY := Lib.hid hy
    have fin : ∀ w2 w3, HP w2 g d b y → Kp [g] w w2 → HLnR (hpX b y) (.tuple #[]) g d.n d.es (pass d.es d.n t y.s) (roseTo d.es y.ro y.s (pass d.es d.n t y.s - y.s)) w2 (.returned (.tuple #[])) w3 →
        HP w3 g d b { y with s := pass d.es d.n t y.s, ro := roseTo d.es y.ro y.s (pass d.es d.n t y.s - y.s) } ∧ Kp [g] w w3 := fun w2 w3 h2 k2 h3 => by
      obtain ⟨_, h4, k4⟩ := h3
      exact ⟨h2.lns.2 _ _ _ h4 k4, k2.trans k4 (by simp)⟩
    have FIN := Lib.hid fin
    clear hy fin
    by_cases h0 : 0 < N
    · have hp : (0 : Int) < (N : Int) := by omega
      go_wp2_with fail
      obtain ⟨cs2, q1, q2⟩ := H1.out.irq
      have Q2 := Lib.hid q2
      refine (qover_any q1).mono ?_
      rintro e w2 ⟨rfl, y1, y2⟩
      have H2 : Hid (HP w2 g d b y) := Lib.hid (by have := Q2.out _ _ y1 y2; rw [← HY.out, if_pos h0]; exact this)
      have K2 := Lib.hid (K1.out.trans y2 (by simp))
      clear y1 y2 q1 q2 Q2 H1 K1
      go_wp2_with fail
      refine (hto_any H2.out.lns.1 H2.out.gd t).mono ?_
      rintro e w3 h3
      obtain rfl := h3.1
      have F := Lib.hid (FIN.out _ _ H2.out K2.out h3)
      clear h3 H2 K2 FIN
      obtain ⟨c2, f2, _⟩ := F.out.1.nw
      go_wp2
      first | go_end0 | refine bodyPost_ret (results_none rfl _ _ _) rfl ?_
      obtain ⟨r1, r2⟩ := F.out.1.nw.2.2 t (by omega)
      refine ⟨rfl, ?_, F.out.2.trans r2 (by simp)⟩
      rw [HE.out]
      have := HY.out
      subst this
      exact r1
    · have hp : ¬ (0 : Int) < (N : Int) := by omega
      have H2 : Hid (HP w1 g d b y) := Lib.hid (by have := H1.out; rw [← HY.out, if_neg h0]; exact this)
      have K2 := K1
      clear H1 K1
      go_wp2_with fail
      refine (hto_any H2.out.lns.1 H2.out.gd t).mono ?_
      rintro e w3 h3
      obtain rfl := h3.1
      have F := Lib.hid (FIN.out _ _ H2.out K2.out h3)
      clear h3 H2 K2 FIN
      obtain ⟨c2, f2, _⟩ := F.out.1.nw
      go_wp2
      first | go_end0 | refine bodyPost_ret (results_none rfl _ _ _) rfl ?_
      obtain ⟨r1, r2⟩ := F.out.1.nw.2.2 t (by omega)
      refine ⟨rfl, ?_, F.out.2.trans r2 (by simp)⟩
      rw [HE.out]
      have := HY.out
      subst this
      exact r1
end
end Go.Proofs.YtccimkmlbcgekaaGreat
namespace Go.Proofs.YtccimkmlbcgekaaGreat
open Go.RowKit
set_option linter.unusedVariables false
set_option linter.unusedSimpArgs false
set_option maxRecDepth 100000
def Hp.ch (d : Hd) (x : Hp) (m : Bool) : Int := chI x.q.d x.q.due (upTo d.es x.s 0) x.ro (upTo d.es x.s 2) (upTo d.es x.s 3) m
def Hp.en (x : Hp) (k : Int) : Hp := if k = 2 then { x with ro := false } else if k = 1 then { x with tm := x.tm.wr 1 0, q := (x.q.wr 2 0).wr 3 0 } else x
theorem hup_v {X : Nat → Value} {w : World} {g n : Nat} {es : Nat → Iib} {s : Nat} {r : Bool} (h : LNH X w g n es s r) (j : Nat) (hj : j < 4) {k : Int} (hk : (j : Int) = k) {u : Bool} (e : upTo es s k = u) :
    Calls Tryz.prog 134 #[.pointer (some ⟨g, 4, none⟩), .int .u8 k] w fun e w' => e = .returned (.bool u) ∧ w = w' := by
  have := hup_any h j (by omega)
  unfold upV at this
  rw [if_pos hj, hk, e] at this
  exact this
theorem hrose_v {X : Nat → Value} {w : World} {g n : Nat} {es : Nat → Iib} {s : Nat} {r : Bool} (h : LNH X w g n es s r) {u : Bool} (e : r = u) :
    Calls Tryz.prog 135 #[.pointer (some ⟨g, 4, none⟩)] w fun e w' => e = .returned (.bool u) ∧ w = w' := e ▸ hrose_any h
theorem qchoose_iv {w : World} {g : Nat} {T : TypeId} {cs : Array Value} {o : Nat} {s : Iq} (h : IQ w g T cs o s) {u0 u1 u2 u3 m : Bool} {x : Int} (e : chI s.d s.due u0 u1 u2 u3 m = x) :
    Calls Tryz.prog 133 #[.pointer (some ⟨g, o, none⟩), .agg #[.bool u0, .bool u1, .bool u2, .bool u3], .bool m] w fun e w' => e = .returned (.int .u8 x) ∧ Below w.heap.size w w' := e ▸ qchoose_any h u0 u1 u2 u3 m
section
variable {w : World} {g : Nat} {d : Hd} {b : Hb} {x : Hp}
set_option maxHeartbeats 4000000 in
theorem hchoose_any (h : HP w g d b x) (m : Bool) :
    Calls Tryz.prog 92 #[.pointer (some ⟨g, 0, none⟩), .bool m] w fun e w' => e = .returned (.int .u8 (x.ch d m)) ∧ Below w.heap.size w w' := by
  have H := Lib.hid (h.kp0 (Kp.refl _ _).drew)
  obtain ⟨u0, h0⟩ : ∃ u, upTo d.es x.s 0 = u := ⟨_, rfl⟩
  obtain ⟨u2, h2⟩ : ∃ u, upTo d.es x.s 2 = u := ⟨_, rfl⟩
  obtain ⟨u3, h3⟩ : ∃ u, upTo d.es x.s 3 = u := ⟨_, rfl⟩
  obtain ⟨ro, hr⟩ : ∃ u, x.ro = u := ⟨_, rfl⟩
  obtain ⟨v, hv⟩ : ∃ v, x.ch d m = v := ⟨_, rfl⟩
  have hv2 : chI x.q.d x.q.due u0 ro u2 u3 m = v := by rw [← hv, ← h0, ← h2, ← h3, ← hr]; rfl
  rw [hv]
  have H0 := Lib.hid h0
  have H2 := Lib.hid h2
  have H3 := Lib.hid h3
  have HR := Lib.hid hr
  have HV := Lib.hid hv2
  clear h h0 h2 h3 hr hv hv2
  go_enter Tryz.func92, Tryz.ntmps92
  go_wp2_with fail
  refine rg_begin (S := fun w' => True) 23 #[false, false, false, false, false, false, false, false, false, false, false, false, false, false, false, false, false, false, false, false, false, false, false] (by kernel_rfl) (by kernel_rfl) (by kernel_rfl) ?_ (fun hHeld => ?_)
  · exact trivial
  refine rg_take (i := 0) (d := some 7) (l := #[true, false, false, false, false, false, false, false, false, false, false, false, false, false, false, false, false, false, false, false, false, false, false]) (fuel := 22) (v := ?_) rfl (by kernel_rfl) (by kernel_rfl) (by kernel_rfl) (by kernel_rfl) (by kernel_rfl) (fun _ _ _ h => h) (by kernel_rfl) ?_ (by assumption) ?_
  rotate_left 1
  · (intro wS hSw; (try dsimp only at hSw); go_simp; try with_reducible rfl)
  try simp only [Act.put, List.setIfInBounds_toArray, List.set_cons_zero, List.set_cons_succ]
  refine rg_take (i := 1) (d := some 8) (l := #[true, true, false, false, false, false, false, false, false, false, false, false, false, false, false, false, false, false, false, false, false, false, false]) (fuel := 21) (v := ?_) rfl (by kernel_rfl) (by kernel_rfl) (by kernel_rfl) (by kernel_rfl) (by kernel_rfl) (fun _ _ _ h => h) (by kernel_rfl) ?_ (by assumption) ?_
  rotate_left 1
  · (intro wS hSw; (try dsimp only at hSw); go_simp; try with_reducible rfl)
  try simp only [Act.put, List.setIfInBounds_toArray, List.set_cons_zero, List.set_cons_succ]
  refine rg_take (i := 2) (d := some 9) (l := #[true, true, true, false, false, false, false, false, false, false, false, false, false, false, false, false, false, false, false, false, false, false, false]) (fuel := 20) (v := ?_) rfl (by kernel_rfl) (by kernel_rfl) (by kernel_rfl) (by kernel_rfl) (by kernel_rfl) (fun _ _ _ h => h) (by kernel_rfl) ?_ (by assumption) ?_
  rotate_left 1
  · (intro wS hSw; (try dsimp only at hSw); go_simp; try with_reducible rfl)
  try simp only [Act.put, List.setIfInBounds_toArray, List.set_cons_zero, List.set_cons_succ]
  refine rg_take (i := 3) (d := some 10) (l := #[true, true, true, true, false, false, false, false, false, false, false, false, false, false, false, false, false, false, false, false, false, false, false]) (fuel := 19) (v := ?_) rfl (by kernel_rfl) (by kernel_rfl) (by kernel_rfl) (by kernel_rfl) (by kernel_rfl) (fun _ _ _ h => h) (by kernel_rfl) ?_ (by assumption) ?_
  rotate_left 1
  · (intro wS hSw; (try dsimp only at hSw); go_simp; try with_reducible rfl)
  try simp only [Act.put, List.setIfInBounds_toArray, List.set_cons_zero, List.set_cons_succ]
  refine rg_take (i := 4) (d := some 11) (l := #[true, true, true, true, true, false, false, false, false, false, false, false, false, false, false, false, false, false, false, false, false, false, false]) (fuel := 18) (v := ?_) rfl (by kernel_rfl) (by kernel_rfl) (by kernel_rfl) (by kernel_rfl) (by kernel_rfl) (fun _ _ _ h => h) (by kernel_rfl) ?_ (by assumption) ?_
  rotate_left 1
  · (intro wS hSw; (try dsimp only at hSw); go_simp; try with_reducible rfl)
  try simp only [Act.put, List.setIfInBounds_toArray, List.set_cons_zero, List.set_cons_succ]
  refine rg_take (i := 5) (d := some 12) (l := #[true, true, true, true, true, true, false, false, false, false, false, false, false, false, false, false, false, false, false, false, false, false, false]) (fuel := 17) (v := ?_) rfl (by kernel_rfl) (by kernel_rfl) (by kernel_rfl) (by kernel_rfl) (by kernel_rfl) (fun _ _ _ h => h) (by kernel_rfl) ?_ (by assumption) ?_
  rotate_left 1
  · (intro wS hSw; (try dsimp only at hSw); go_simp; try with_reducible rfl)
  try simp only [Act.put, List.setIfInBounds_toArray, List.set_cons_zero, List.set_cons_succ]
  refine rg_take (i := 7) (d := some 14) (l := #[true, true, true, true, true, true, false, true, false, false, false, false, false, false, false, false, false, false, false, false, false, false, false]) (fuel := 16) (v := ?_) rfl (by kernel_rfl) (by kernel_rfl) (by kernel_rfl) (by kernel_rfl) (by kernel_rfl) (fun _ _ _ h => h) (by kernel_rfl) ?_ (by assumption) ?_
  rotate_left 1
  · (intro wS hSw; (try dsimp only at hSw); go_simp; try with_reducible rfl)
  try simp only [Act.put, List.setIfInBounds_toArray, List.set_cons_zero, List.set_cons_succ]
  refine rg_take (i := 8) (d := some 15) (l := #[true, true, true, true, true, true, false, true, true, false, false, false, false, false, false, false, false, false, false, false, false, false, false]) (fuel := 15) (v := ?_) rfl (by kernel_rfl) (by kernel_rfl) (by kernel_rfl) (by kernel_rfl) (by kernel_rfl) (fun _ _ _ h => h) (by kernel_rfl) ?_ (by assumption) ?_
  rotate_left 1
  · (intro wS hSw; (try dsimp only at hSw); go_simp; try with_reducible rfl)
  try simp only [Act.put, List.setIfInBounds_toArray, List.set_cons_zero, List.set_cons_succ]
  refine rg_take (i := 9) (d := some 16) (l := #[true, true, true, true, true, true, false, true, true, true, false, false, false, false, false, false, false, false, false, false, false, false, false]) (fuel := 14) (v := ?_) rfl (by kernel_rfl) (by kernel_rfl) (by kernel_rfl) (by kernel_rfl) (by kernel_rfl) (fun _ _ _ h => h) (by kernel_rfl) ?_ (by assumption) ?_
  rotate_left 1
  · (intro wS hSw; (try dsimp only at hSw); go_simp; try with_reducible rfl)
  try simp only [Act.put, List.setIfInBounds_toArray, List.set_cons_zero, List.set_cons_succ]
  refine rg_take (i := 11) (d := some 18) (l := #[true, true, true, true, true, true, false, true, true, true, false, true, false, false, false, false, false, false, false, false, false, false, false]) (fuel := 13) (v := ?_) rfl (by kernel_rfl) (by kernel_rfl) (by kernel_rfl) (by kernel_rfl) (by kernel_rfl) (fun _ _ _ h => h) (by kernel_rfl) ?_ (by assumption) ?_
  rotate_left 1
  · (intro wS hSw; (try dsimp only at hSw); go_simp; try with_reducible rfl)
  try simp only [Act.put, List.setIfInBounds_toArray, List.set_cons_zero, List.set_cons_succ]
  refine rg_take (i := 12) (d := some 19) (l := #[true, true, true, true, true, true, false, true, true, true, false, true, true, false, false, false, false, false, false, false, false, false, false]) (fuel := 12) (v := ?_) rfl (by kernel_rfl) (by kernel_rfl) (by kernel_rfl) (by kernel_rfl) (by kernel_rfl) (fun _ _ _ h => h) (by kernel_rfl) ?_ (by assumption) ?_
  rotate_left 1
  · (intro wS hSw; (try dsimp only at hSw); go_simp; try with_reducible rfl)
  try simp only [Act.put, List.setIfInBounds_toArray, List.set_cons_zero, List.set_cons_succ]
  refine rg_take (i := 13) (d := some 20) (l := #[true, true, true, true, true, true, false, true, true, true, false, true, true, true, false, false, false, false, false, false, false, false, false]) (fuel := 11) (v := ?_) rfl (by kernel_rfl) (by kernel_rfl) (by kernel_rfl) (by kernel_rfl) (by kernel_rfl) (fun _ _ _ h => h) (by kernel_rfl) ?_ (by assumption) ?_
  rotate_left 1
  · (intro wS hSw; (try dsimp only at hSw); go_simp; try with_reducible rfl)
  try simp only [Act.put, List.setIfInBounds_toArray, List.set_cons_zero, List.set_cons_succ]
  refine rg_take (i := 15) (d := some 22) (l := #[true, true, true, true, true, true, false, true, true, true, false, true, true, true, false, true, false, false, false, false, false, false, false]) (fuel := 10) (v := ?_) rfl (by kernel_rfl) (by kernel_rfl) (by kernel_rfl) (by kernel_rfl) (by kernel_rfl) (fun _ _ _ h => h) (by kernel_rfl) ?_ (by assumption) ?_
  rotate_left 1
  · (intro wS hSw; (try dsimp only at hSw); go_simp; try with_reducible rfl)
  try simp only [Act.put, List.setIfInBounds_toArray, List.set_cons_zero, List.set_cons_succ]
  refine rg_take (i := 16) (d := some 23) (l := #[true, true, true, true, true, true, false, true, true, true, false, true, true, true, false, true, true, false, false, false, false, false, false]) (fuel := 9) (v := ?_) rfl (by kernel_rfl) (by kernel_rfl) (by kernel_rfl) (by kernel_rfl) (by kernel_rfl) (fun _ _ _ h => h) (by kernel_rfl) ?_ (by assumption) ?_
  rotate_left 1
  · (intro wS hSw; (try dsimp only at hSw); go_simp; try with_reducible rfl)
  try simp only [Act.put, List.setIfInBounds_toArray, List.set_cons_zero, List.set_cons_succ]
  refine rg_take (i := 17) (d := some 24) (l := #[true, true, true, true, true, true, false, true, true, true, false, true, true, true, false, true, true, true, false, false, false, false, false]) (fuel := 8) (v := ?_) rfl (by kernel_rfl) (by kernel_rfl) (by kernel_rfl) (by kernel_rfl) (by kernel_rfl) (fun _ _ _ h => h) (by kernel_rfl) ?_ (by assumption) ?_
  rotate_left 1
  · (intro wS hSw; (try dsimp only at hSw); go_simp; try with_reducible rfl)
  try simp only [Act.put, List.setIfInBounds_toArray, List.set_cons_zero, List.set_cons_succ]
  refine rg_take (i := 20) (d := some 27) (l := #[true, true, true, true, true, true, false, true, true, true, false, true, true, true, false, true, true, true, false, false, true, false, false]) (fuel := 7) (v := ?_) rfl (by kernel_rfl) (by kernel_rfl) (by kernel_rfl) (by kernel_rfl) (by kernel_rfl) (fun _ _ _ h => h) (by kernel_rfl) ?_ (by assumption) ?_
  rotate_left 1
  · (intro wS hSw; (try dsimp only at hSw); go_simp; try with_reducible rfl)
  try simp only [Act.put, List.setIfInBounds_toArray, List.set_cons_zero, List.set_cons_succ]
  refine rg_next (i := 6) (l := #[true, true, true, true, true, true, true, true, true, true, false, true, true, true, false, true, true, true, false, false, true, false, false]) (fuel := 6) (by kernel_rfl) rfl (by kernel_rfl) (by kernel_rfl) (fun K hK => ?_)
  go_simp
  (go_at_call 134)
  refine (hup_v H.out.lns.1 0 (by decide) rfl H0.out).mono ?_
  rintro e w' ⟨rfl, rfl⟩
  first | (refine hK.out _ _ ?_ (fun hHeld => ?_)) | (go_wp2_with fail; refine hK.out _ _ ?_ (fun hHeld => ?_))
  · (try dsimp only); try exact trivial
  clear hK K
  try simp only [Act.put, List.setIfInBounds_toArray, List.set_cons_zero, List.set_cons_succ]
  refine rg_next (i := 10) (l := #[true, true, true, true, true, true, true, true, true, true, true, true, true, true, false, true, true, true, false, false, true, false, false]) (fuel := 5) (by kernel_rfl) rfl (by kernel_rfl) (by kernel_rfl) (fun K hK => ?_)
  go_simp
  (go_at_call 135)
  refine (hrose_v H.out.lns.1 HR.out).mono ?_
  rintro e w' ⟨rfl, rfl⟩
  first | (refine hK.out _ _ ?_ (fun hHeld => ?_)) | (go_wp2_with fail; refine hK.out _ _ ?_ (fun hHeld => ?_))
  · (try dsimp only); try exact trivial
  clear hK K
  try simp only [Act.put, List.setIfInBounds_toArray, List.set_cons_zero, List.set_cons_succ]
  refine rg_next (i := 14) (l := #[true, true, true, true, true, true, true, true, true, true, true, true, true, true, true, true, true, true, false, false, true, false, false]) (fuel := 4) (by kernel_rfl) rfl (by kernel_rfl) (by kernel_rfl) (fun K hK => ?_)
  go_simp
  (go_at_call 134)
  refine (hup_v H.out.lns.1 2 (by decide) rfl H2.out).mono ?_
  rintro e w' ⟨rfl, rfl⟩
  first | (refine hK.out _ _ ?_ (fun hHeld => ?_)) | (go_wp2_with fail; refine hK.out _ _ ?_ (fun hHeld => ?_))
  · (try dsimp only); try exact trivial
  clear hK K
  try simp only [Act.put, List.setIfInBounds_toArray, List.set_cons_zero, List.set_cons_succ]
  refine rg_next (i := 18) (l := #[true, true, true, true, true, true, true, true, true, true, true, true, true, true, true, true, true, true, true, false, true, false, false]) (fuel := 3) (by kernel_rfl) rfl (by kernel_rfl) (by kernel_rfl) (fun K hK => ?_)
  go_simp
  (go_at_call 134)
  refine (hup_v H.out.lns.1 3 (by decide) rfl H3.out).mono ?_
  rintro e w' ⟨rfl, rfl⟩
  first | (refine hK.out _ _ ?_ (fun hHeld => ?_)) | (go_wp2_with fail; refine hK.out _ _ ?_ (fun hHeld => ?_))
  · (try dsimp only); try exact trivial
  clear hK K
  try simp only [Act.put, List.setIfInBounds_toArray, List.set_cons_zero, List.set_cons_succ]
  refine rg_take (i := 19) (d := some 26) (l := #[true, true, true, true, true, true, true, true, true, true, true, true, true, true, true, true, true, true, true, true, true, false, false]) (fuel := 2) (v := ?_) rfl (by kernel_rfl) (by kernel_rfl) (by kernel_rfl) (by kernel_rfl) (by kernel_rfl) (fun _ _ _ h => h) (by kernel_rfl) ?_ (by assumption) ?_
  rotate_left 1
  · (intro wS hSw; (try dsimp only at hSw); go_simp; try with_reducible rfl)
  try simp only [Act.put, List.setIfInBounds_toArray, List.set_cons_zero, List.set_cons_succ]
  refine rg_next (i := 21) (l := #[true, true, true, true, true, true, true, true, true, true, true, true, true, true, true, true, true, true, true, true, true, true, false]) (fuel := 1) (by kernel_rfl) rfl (by kernel_rfl) (by kernel_rfl) (fun K hK => ?_)
  go_simp
  (go_at_call 133)
  obtain ⟨cs, q1, _⟩ := H.out.irq
  refine (qchoose_iv q1 HV.out).mono ?_
  rintro e w1 ⟨rfl, b1⟩
  have B1 : Hid (Below w.heap.size w w1) := Lib.hid ((Below.refl _ w).drew.trans b1)
  clear b1 q1
  first | (refine hK.out _ _ ?_ (fun hHeld => ?_)) | (go_wp2_with fail; refine hK.out _ _ ?_ (fun hHeld => ?_))
  · (try dsimp only); try exact trivial
  clear hK K
  try simp only [Act.put, List.setIfInBounds_toArray, List.set_cons_zero, List.set_cons_succ]
  refine rg_take (i := 22) (d := some 4) (l := #[true, true, true, true, true, true, true, true, true, true, true, true, true, true, true, true, true, true, true, true, true, true, true]) (fuel := 0) (v := ?_) rfl (by kernel_rfl) (by kernel_rfl) (by kernel_rfl) (by kernel_rfl) (by kernel_rfl) (fun _ _ _ h => h) (by kernel_rfl) ?_ (by assumption) ?_
  rotate_left 1
  · (intro wS hSw; (try dsimp only at hSw); go_simp; try with_reducible rfl)
  try simp only [Act.put, List.setIfInBounds_toArray, List.set_cons_zero, List.set_cons_succ]
  refine wpAnyH_done (by kernel_rfl) ?_ _
  go_wp2_with fail
  go_ret
  exact ⟨rfl, B1.out⟩
theorem hentered_any (h : HP w g d b x) (k : Int) (k0 : 0 ≤ k) (k1 : k ≤ 255) :
    Calls Tryz.prog 90 #[.pointer (some ⟨g, 0, none⟩), .int .u8 k] w (HpR (.tuple #[]) g d b (x.en k) [g] w) := by
  have H := Lib.hid h
  clear h
  by_cases h2 : k = 2
  · subst h2
    have e : x.en 2 = { x with ro := false } := by unfold Hp.en; rw [if_pos rfl]
    rw [e]
    clear e
    go_enter Tryz.func90, Tryz.ntmps90
    go_wp2_with fail
    refine (htake_any H.out.lns.1).mono ?_
    rintro e w1 ⟨rfl, y1, y2⟩
    have Y := Lib.hid (H.out.lns.2 _ _ _ y1 y2)
    have K := Lib.hid y2
    clear y1 y2 H
    go_wp2
    first | go_end0 | refine bodyPost_ret (results_none rfl _ _ _) rfl ?_
    exact ⟨rfl, Y.out, K.out⟩
  · have n2 : (k == 2) = false := by simpa using h2
    by_cases h1 : k = 1
    · subst h1
      have e : x.en 1 = { x with tm := x.tm.wr 1 0, q := (x.q.wr 2 0).wr 3 0 } := by unfold Hp.en; rw [if_neg (by decide), if_pos rfl]
      rw [e]
      clear e h2 n2
      go_enter Tryz.func90, Tryz.ntmps90
      go_wp2_with fail
      obtain ⟨cs, q1, q2⟩ := H.out.tmr
      refine (twrite_any q1 1 0 (by decide) (by decide)).mono ?_
      rintro e w1 ⟨rfl, y1, y2⟩
      have Y := Lib.hid (q2 _ _ y1 y2)
      have K := Lib.hid y2
      clear y1 y2 H q1 q2 cs
      go_wp2_with fail
      obtain ⟨cs, q1, q2⟩ := Y.out.irq
      refine (qwrite_any q1 2 0 (by decide) (by decide)).mono ?_
      rintro e w2 ⟨rfl, y1, y2⟩
      have Y2 := Lib.hid (q2 _ _ y1 y2)
      have K2 := Lib.hid (K.out.trans y2 (by simp))
      clear y1 y2 Y K q1 q2 cs
      go_wp2_with fail
      obtain ⟨cs, q1, q2⟩ := Y2.out.irq
      refine (qwrite_any q1 3 0 (by decide) (by decide)).mono ?_
      rintro e w3 ⟨rfl, y1, y2⟩
      have Y3 := Lib.hid (q2 _ _ y1 y2)
      have K3 := Lib.hid (K2.out.trans y2 (by simp))
      clear y1 y2 Y2 K2 q1 q2 cs
      go_wp2
      first | go_end0 | refine bodyPost_ret (results_none rfl _ _ _) rfl ?_
      exact ⟨rfl, Y3.out, K3.out⟩
    · have n1 : (k == 1) = false := by simpa using h1
      have e : x.en k = x := by unfold Hp.en; rw [if_neg h2, if_neg h1]
      rw [e]
      clear e
      go_enter Tryz.func90, Tryz.ntmps90
      go_wp2
      first | go_end0 | refine bodyPost_ret (results_none rfl _ _ _) rfl ?_
      exact ⟨rfl, H.out, Kp.refl _ _⟩
end
end Go.Proofs.YtccimkmlbcgekaaGreat
namespace Go.Proofs.YtccimkmlbcgekaaGreat
open Go.RowKit
set_option linter.unusedVariables false
set_option linter.unusedSimpArgs false
set_option maxRecDepth 100000
def HCloneR (g : Nat) (d : Hd) (b : Hb) (x : Hp) (w : World) (e : Ending) (w' : World) : Prop :=
  ∃ g2 b2, e = .returned (.pointer (some ⟨g2, 0, none⟩)) ∧ (w.heap.size ≤ g2 ∧ w.heap.size ≤ b2.v ∧ w.heap.size ≤ b2.c ∧ w.heap.size ≤ b2.p) ∧ HP w' g2 d b2 x ∧ HP w' g d b x ∧ Kp [b.v, b.c, b.p] w w'
section
variable {w : World} {g : Nat} {d : Hd} {b : Hb} {x : Hp}
theorem Blk.kpn {w w' : World} {k : Nat} {t : TypeId} {cs : Array Value} {L : List Nat} (h : Blk w k t cs) (kp : Kp L w w') {B : Nat} (hB : B ≤ k) (hL : ∀ y ∈ L, y < B) : Blk w' k t cs := h.kp kp (fun e => by have := hL _ e; omega)
theorem Box.kpn {w w' : World} {cb n : Nat} {z : Nat → Int} {L : List Nat} (h : Box w cb n z) (kp : Kp L w w') (hT : ∀ x ∈ L, ∃ t cs, Blk w x t cs ∧ 5 ≠ t) {B : Nat} (hB : B ≤ cb) (hL : ∀ y ∈ L, y < B) : Box w' cb n z := h.kp kp hT (fun e => by have := hL _ e; omega)
theorem HP.boxOff (h : HP w g d b x) : (∃ t cs, Blk w b.v t cs ∧ 5 ≠ t ∧ 179 ≠ t) ∧ (∃ t cs, Blk w b.c t cs ∧ 5 ≠ t ∧ 179 ≠ t) ∧ (∃ t cs, Blk w b.p t cs ∧ 5 ≠ t ∧ 179 ≠ t) := by
  obtain ⟨A, c, hb, ho⟩ := h
  obtain ⟨v1, h1, _⟩ := ho.v
  obtain ⟨v2, h2, _⟩ := ho.c
  obtain ⟨v3, h3, _⟩ := ho.p
  exact ⟨⟨_, _, h1, by decide, by decide⟩, ⟨_, _, h2, by decide, by decide⟩, ⟨_, _, h3, by decide, by decide⟩⟩
set_option maxHeartbeats 16000000 in
theorem hclone_page (h : HP w g d b x) (hd : d.np ≤ 140737488355328 ∧ d.nv ≤ 140737488355328 ∧ d.nc ≤ 140737488355328) :
    Calls Tryz.prog 65 #[.pointer (some ⟨g, 0, none⟩)] w (HCloneR g d b x w) := by
  obtain ⟨B, hB⟩ : ∃ B, w.heap.size = B := ⟨_, rfl⟩
  have H := Lib.hid (h.kp0 (Kp.refl _ _).drew)
  have c0 := h.nw.1
  have KK : Hid (Kp [b.v, b.c, b.p] w w.drew) := Lib.hid (Kp.refl _ _).drew
  have hz : B ≤ w.drew.heap.size := by rw [← hB]; exact Nat.le_refl _
  have hl := h.lt
  rw [hB] at hl
  obtain ⟨hlg, hlv, hlc, hlp⟩ := hl
  have HBB := Lib.hid hB
  clear h hB
  go_enter Tryz.func65, Tryz.ntmps65
  go_wp2_with fail
  refine rg_begin (S := fun w' => w'.cell? ⟨g, 22, none⟩ = some (.int .i64 x.now)) 50 #[false, false, false, false, false, false, false, false, false, false, false, false, false, false, false, false, false, false, false, false, false, false, false, false, false, false, false, false, false, false, false, false, false, false, false, false, false, false, false, false, false, false, false, false, false, false, false, false, false, false] (by kernel_rfl) (by kernel_rfl) (by kernel_rfl) ?_ (fun hHeld => ?_)
  · exact c0
  clear c0
  generalize w.drew = w0 at *
  refine rg_take (i := 0) (d := some 5) (l := #[true, false, false, false, false, false, false, false, false, false, false, false, false, false, false, false, false, false, false, false, false, false, false, false, false, false, false, false, false, false, false, false, false, false, false, false, false, false, false, false, false, false, false, false, false, false, false, false, false, false]) (fuel := 49) (v := ?_) rfl (by kernel_rfl) (by kernel_rfl) (by kernel_rfl) (by kernel_rfl) (by kernel_rfl) (fun _ _ _ h => h) (by kernel_rfl) ?_ (by assumption) ?_
  rotate_left 1
  · (intro wS hSw; (try dsimp only at hSw); go_simp; try with_reducible rfl)
  try simp only [Act.put, List.setIfInBounds_toArray, List.set_cons_zero, List.set_cons_succ]
  refine rg_take (i := 1) (d := some 6) (l := #[true, true, false, false, false, false, false, false, false, false, false, false, false, false, false, false, false, false, false, false, false, false, false, false, false, false, false, false, false, false, false, false, false, false, false, false, false, false, false, false, false, false, false, false, false, false, false, false, false, false]) (fuel := 48) (v := ?_) rfl (by kernel_rfl) (by kernel_rfl) (by kernel_rfl) (by kernel_rfl) (by kernel_rfl) (fun _ _ _ h => h) (by kernel_rfl) ?_ (by assumption) ?_
  rotate_left 1
  · (intro wS hSw; (try dsimp only at hSw); go_simp; try with_reducible rfl)
  try simp only [Act.put, List.setIfInBounds_toArray, List.set_cons_zero, List.set_cons_succ]
  refine rg_take (i := 2) (d := some 7) (l := #[true, true, true, false, false, false, false, false, false, false, false, false, false, false, false, false, false, false, false, false, false, false, false, false, false, false, false, false, false, false, false, false, false, false, false, false, false, false, false, false, false, false, false, false, false, false, false, false, false, false]) (fuel := 47) (v := ?_) rfl (by kernel_rfl) (by kernel_rfl) (by kernel_rfl) (by kernel_rfl) (by kernel_rfl) (fun _ _ _ h => h) (by kernel_rfl) ?_ (by assumption) ?_
  rotate_left 1
  · (intro wS hSw; (try dsimp only at hSw); go_simp; try with_reducible rfl)
  try simp only [Act.put, List.setIfInBounds_toArray, List.set_cons_zero, List.set_cons_succ]
  refine rg_take (i := 6) (d := some 11) (l := #[true, true, true, false, false, false, true, false, false, false, false, false, false, false, false, false, false, false, false, false, false, false, false, false, false, false, false, false, false, false, false, false, false, false, false, false, false, false, false, false, false, false, false, false, false, false, false, false, false, false]) (fuel := 46) (v := ?_) rfl (by kernel_rfl) (by kernel_rfl) (by kernel_rfl) (by kernel_rfl) (by kernel_rfl) (fun _ _ _ h => h) (by kernel_rfl) ?_ (by assumption) ?_
  rotate_left 1
  · (intro wS hSw; (try dsimp only at hSw); go_simp; try with_reducible rfl)
  try simp only [Act.put, List.setIfInBounds_toArray, List.set_cons_zero, List.set_cons_succ]
  refine rg_take (i := 7) (d := some 12) (l := #[true, true, true, false, false, false, true, true, false, false, false, false, false, false, false, false, false, false, false, false, false, false, false, false, false, false, false, false, false, false, false, false, false, false, false, false, false, false, false, false, false, false, false, false, false, false, false, false, false, false]) (fuel := 45) (v := ?_) rfl (by kernel_rfl) (by kernel_rfl) (by kernel_rfl) (by kernel_rfl) (by kernel_rfl) (fun _ _ _ h => h) (by kernel_rfl) ?_ (by assumption) ?_
  rotate_left 1
  · (intro wS hSw; (try dsimp only at hSw); go_simp; try with_reducible rfl)
  try simp only [Act.put, List.setIfInBounds_toArray, List.set_cons_zero, List.set_cons_succ]
  refine rg_take (i := 8) (d := some 13) (l := #[true, true, true, false, false, false, true, true, true, false, false, false, false, false, false, false, false, false, false, false, false, false, false, false, false, false, false, false, false, false, false, false, false, false, false, false, false, false, false, false, false, false, false, false, false, false, false, false, false, false]) (fuel := 44) (v := ?_) rfl (by kernel_rfl) (by kernel_rfl) (by kernel_rfl) (by kernel_rfl) (by kernel_rfl) (fun _ _ _ h => h) (by kernel_rfl) ?_ (by assumption) ?_
  rotate_left 1
  · (intro wS hSw; (try dsimp only at hSw); go_simp; try with_reducible rfl)
  try simp only [Act.put, List.setIfInBounds_toArray, List.set_cons_zero, List.set_cons_succ]
  refine rg_take (i := 12) (d := some 17) (l := #[true, true, true, false, false, false, true, true, true, false, false, false, true, false, false, false, false, false, false, false, false, false, false, false, false, false, false, false, false, false, false, false, false, false, false, false, false, false, false, false, false, false, false, false, false, false, false, false, false, false]) (fuel := 43) (v := ?_) rfl (by kernel_rfl) (by kernel_rfl) (by kernel_rfl) (by kernel_rfl) (by kernel_rfl) (fun _ _ _ h => h) (by kernel_rfl) ?_ (by assumption) ?_
  rotate_left 1
  · (intro wS hSw; (try dsimp only at hSw); go_simp; try with_reducible rfl)
  try simp only [Act.put, List.setIfInBounds_toArray, List.set_cons_zero, List.set_cons_succ]
  refine rg_take (i := 13) (d := some 18) (l := #[true, true, true, false, false, false, true, true, true, false, false, false, true, true, false, false, false, false, false, false, false, false, false, false, false, false, false, false, false, false, false, false, false, false, false, false, false, false, false, false, false, false, false, false, false, false, false, false, false, false]) (fuel := 42) (v := ?_) rfl (by kernel_rfl) (by kernel_rfl) (by kernel_rfl) (by kernel_rfl) (by kernel_rfl) (fun _ _ _ h => h) (by kernel_rfl) ?_ (by assumption) ?_
  rotate_left 1
  · (intro wS hSw; (try dsimp only at hSw); go_simp; try with_reducible rfl)
  try simp only [Act.put, List.setIfInBounds_toArray, List.set_cons_zero, List.set_cons_succ]
  refine rg_take (i := 14) (d := some 19) (l := #[true, true, true, false, false, false, true, true, true, false, false, false, true, true, true, false, false, false, false, false, false, false, false, false, false, false, false, false, false, false, false, false, false, false, false, false, false, false, false, false, false, false, false, false, false, false, false, false, false, false]) (fuel := 41) (v := ?_) rfl (by kernel_rfl) (by kernel_rfl) (by kernel_rfl) (by kernel_rfl) (by kernel_rfl) (fun _ _ _ h => h) (by kernel_rfl) ?_ (by assumption) ?_
  rotate_left 1
  · (intro wS hSw; (try dsimp only at hSw); go_simp; try with_reducible rfl)
  try simp only [Act.put, List.setIfInBounds_toArray, List.set_cons_zero, List.set_cons_succ]
  refine rg_take (i := 19) (d := some 24) (l := #[true, true, true, false, false, false, true, true, true, false, false, false, true, true, true, false, false, false, false, true, false, false, false, false, false, false, false, false, false, false, false, false, false, false, false, false, false, false, false, false, false, false, false, false, false, false, false, false, false, false]) (fuel := 40) (v := ?_) rfl (by kernel_rfl) (by kernel_rfl) (by kernel_rfl) (by kernel_rfl) (by kernel_rfl) (fun _ _ _ h => h) (by kernel_rfl) ?_ (by assumption) ?_
  rotate_left 1
  · (intro wS hSw; (try dsimp only at hSw); go_simp; try with_reducible rfl)
  try simp only [Act.put, List.setIfInBounds_toArray, List.set_cons_zero, List.set_cons_succ]
  refine rg_take (i := 20) (d := some 25) (l := #[true, true, true, false, false, false, true, true, true, false, false, false, true, true, true, false, false, false, false, true, true, false, false, false, false, false, false, false, false, false, false, false, false, false, false, false, false, false, false, false, false, false, false, false, false, false, false, false, false, false]) (fuel := 39) (v := ?_) rfl (by kernel_rfl) (by kernel_rfl) (by kernel_rfl) (by kernel_rfl) (by kernel_rfl) (fun _ _ _ h => h) (by kernel_rfl) ?_ (by assumption) ?_
  rotate_left 1
  · (intro wS hSw; (try dsimp only at hSw); go_simp; try with_reducible rfl)
  try simp only [Act.put, List.setIfInBounds_toArray, List.set_cons_zero, List.set_cons_succ]
  refine rg_take (i := 21) (d := some 26) (l := #[true, true, true, false, false, false, true, true, true, false, false, false, true, true, true, false, false, false, false, true, true, true, false, false, false, false, false, false, false, false, false, false, false, false, false, false, false, false, false, false, false, false, false, false, false, false, false, false, false, false]) (fuel := 38) (v := ?_) rfl (by kernel_rfl) (by kernel_rfl) (by kernel_rfl) (by kernel_rfl) (by kernel_rfl) (fun _ _ _ h => h) (by kernel_rfl) ?_ (by assumption) ?_
  rotate_left 1
  · (intro wS hSw; (try dsimp only at hSw); go_simp; try with_reducible rfl)
  try simp only [Act.put, List.setIfInBounds_toArray, List.set_cons_zero, List.set_cons_succ]
  refine rg_take (i := 25) (d := some 30) (l := #[true, true, true, false, false, false, true, true, true, false, false, false, true, true, true, false, false, false, false, true, true, true, false, false, false, true, false, false, false, false, false, false, false, false, false, false, false, false, false, false, false, false, false, false, false, false, false, false, false, false]) (fuel := 37) (v := ?_) rfl (by kernel_rfl) (by kernel_rfl) (by kernel_rfl) (by kernel_rfl) (by kernel_rfl) (fun _ _ _ h => h) (by kernel_rfl) ?_ (by assumption) ?_
  rotate_left 1
  · (intro wS hSw; (try dsimp only at hSw); go_simp; try with_reducible rfl)
  try simp only [Act.put, List.setIfInBounds_toArray, List.set_cons_zero, List.set_cons_succ]
  refine rg_take (i := 26) (d := some 31) (l := #[true, true, true, false, false, false, true, true, true, false, false, false, true, true, true, false, false, false, false, true, true, true, false, false, false, true, true, false, false, false, false, false, false, false, false, false, false, false, false, false, false, false, false, false, false, false, false, false, false, false]) (fuel := 36) (v := ?_) rfl (by kernel_rfl) (by kernel_rfl) (by kernel_rfl) (by kernel_rfl) (by kernel_rfl) (fun _ _ _ h => h) (by kernel_rfl) ?_ (by assumption) ?_
  rotate_left 1
  · (intro wS hSw; (try dsimp only at hSw); go_simp; try with_reducible rfl)
  try simp only [Act.put, List.setIfInBounds_toArray, List.set_cons_zero, List.set_cons_succ]
  refine rg_take (i := 27) (d := some 32) (l := #[true, true, true, false, false, false, true, true, true, false, false, false, true, true, true, false, false, false, false, true, true, true, false, false, false, true, true, true, false, false, false, false, false, false, false, false, false, false, false, false, false, false, false, false, false, false, false, false, false, false]) (fuel := 35) (v := ?_) rfl (by kernel_rfl) (by kernel_rfl) (by kernel_rfl) (by kernel_rfl) (by kernel_rfl) (fun _ _ _ h => h) (by kernel_rfl) ?_ (by assumption) ?_
  rotate_left 1
  · (intro wS hSw; (try dsimp only at hSw); go_simp; try with_reducible rfl)
  try simp only [Act.put, List.setIfInBounds_toArray, List.set_cons_zero, List.set_cons_succ]
  refine rg_take (i := 31) (d := some 36) (l := #[true, true, true, false, false, false, true, true, true, false, false, false, true, true, true, false, false, false, false, true, true, true, false, false, false, true, true, true, false, false, false, true, false, false, false, false, false, false, false, false, false, false, false, false, false, false, false, false, false, false]) (fuel := 34) (v := ?_) rfl (by kernel_rfl) (by kernel_rfl) (by kernel_rfl) (by kernel_rfl) (by kernel_rfl) (fun _ _ _ h => h) (by kernel_rfl) ?_ (by assumption) ?_
  rotate_left 1
  · (intro wS hSw; (try dsimp only at hSw); go_simp; try with_reducible rfl)
  try simp only [Act.put, List.setIfInBounds_toArray, List.set_cons_zero, List.set_cons_succ]
  refine rg_take (i := 32) (d := some 37) (l := #[true, true, true, false, false, false, true, true, true, false, false, false, true, true, true, false, false, false, false, true, true, true, false, false, false, true, true, true, false, false, false, true, true, false, false, false, false, false, false, false, false, false, false, false, false, false, false, false, false, false]) (fuel := 33) (v := ?_) rfl (by kernel_rfl) (by kernel_rfl) (by kernel_rfl) (by kernel_rfl) (by kernel_rfl) (fun _ _ _ h => h) (by kernel_rfl) ?_ (by assumption) ?_
  rotate_left 1
  · (intro wS hSw; (try dsimp only at hSw); go_simp; try with_reducible rfl)
  try simp only [Act.put, List.setIfInBounds_toArray, List.set_cons_zero, List.set_cons_succ]
  refine rg_take (i := 33) (d := some 38) (l := #[true, true, true, false, false, false, true, true, true, false, false, false, true, true, true, false, false, false, false, true, true, true, false, false, false, true, true, true, false, false, false, true, true, true, false, false, false, false, false, false, false, false, false, false, false, false, false, false, false, false]) (fuel := 32) (v := ?_) rfl (by kernel_rfl) (by kernel_rfl) (by kernel_rfl) (by kernel_rfl) (by kernel_rfl) (fun _ _ _ h => h) (by kernel_rfl) ?_ (by assumption) ?_
  rotate_left 1
  · (intro wS hSw; (try dsimp only at hSw); go_simp; try with_reducible rfl)
  try simp only [Act.put, List.setIfInBounds_toArray, List.set_cons_zero, List.set_cons_succ]
  refine rg_take (i := 37) (d := some 42) (l := #[true, true, true, false, false, false, true, true, true, false, false, false, true, true, true, false, false, false, false, true, true, true, false, false, false, true, true, true, false, false, false, true, true, true, false, false, false, true, false, false, false, false, false, false, false, false, false, false, false, false]) (fuel := 31) (v := ?_) rfl (by kernel_rfl) (by kernel_rfl) (by kernel_rfl) (by kernel_rfl) (by kernel_rfl) (fun _ _ _ h => h) (by kernel_rfl) ?_ (by assumption) ?_
  rotate_left 1
  · (intro wS hSw; (try dsimp only at hSw); go_simp; try with_reducible rfl)
  try simp only [Act.put, List.setIfInBounds_toArray, List.set_cons_zero, List.set_cons_succ]
  refine rg_take (i := 38) (d := some 43) (l := #[true, true, true, false, false, false, true, true, true, false, false, false, true, true, true, false, false, false, false, true, true, true, false, false, false, true, true, true, false, false, false, true, true, true, false, false, false, true, true, false, false, false, false, false, false, false, false, false, false, false]) (fuel := 30) (v := ?_) rfl (by kernel_rfl) (by kernel_rfl) (by kernel_rfl) (by kernel_rfl) (by kernel_rfl) (fun _ _ _ h => h) (by kernel_rfl) ?_ (by assumption) ?_
  rotate_left 1
  · (intro wS hSw; (try dsimp only at hSw); go_simp; try with_reducible rfl)
  try simp only [Act.put, List.setIfInBounds_toArray, List.set_cons_zero, List.set_cons_succ]
  refine rg_take (i := 39) (d := some 44) (l := #[true, true, true, false, false, false, true, true, true, false, false, false, true, true, true, false, false, false, false, true, true, true, false, false, false, true, true, true, false, false, false, true, true, true, false, false, false, true, true, true, false, false, false, false, false, false, false, false, false, false]) (fuel := 29) (v := ?_) rfl (by kernel_rfl) (by kernel_rfl) (by kernel_rfl) (by kernel_rfl) (by kernel_rfl) (fun _ _ _ h => h) (by kernel_rfl) ?_ (by assumption) ?_
  rotate_left 1
  · (intro wS hSw; (try dsimp only at hSw); go_simp; try with_reducible rfl)
  try simp only [Act.put, List.setIfInBounds_toArray, List.set_cons_zero, List.set_cons_succ]
  refine rg_take (i := 43) (d := some 48) (l := #[true, true, true, false, false, false, true, true, true, false, false, false, true, true, true, false, false, false, false, true, true, true, false, false, false, true, true, true, false, false, false, true, true, true, false, false, false, true, true, true, false, false, false, true, false, false, false, false, false, false]) (fuel := 28) (v := ?_) rfl (by kernel_rfl) (by kernel_rfl) (by kernel_rfl) (by kernel_rfl) (by kernel_rfl) (fun _ _ _ h => h) (by kernel_rfl) ?_ (by assumption) ?_
  rotate_left 1
  · (intro wS hSw; (try dsimp only at hSw); go_simp; try with_reducible rfl)
  try simp only [Act.put, List.setIfInBounds_toArray, List.set_cons_zero, List.set_cons_succ]
  refine rg_take (i := 44) (d := some 49) (l := #[true, true, true, false, false, false, true, true, true, false, false, false, true, true, true, false, false, false, false, true, true, true, false, false, false, true, true, true, false, false, false, true, true, true, false, false, false, true, true, true, false, false, false, true, true, false, false, false, false, false]) (fuel := 27) (v := ?_) rfl (by kernel_rfl) (by kernel_rfl) (by kernel_rfl) (by kernel_rfl) (by kernel_rfl) (fun _ _ _ h => h) (by kernel_rfl) ?_ (by assumption) ?_
  rotate_left 1
  · (intro wS hSw; (try dsimp only at hSw); go_simp; try with_reducible rfl)
  try simp only [Act.put, List.setIfInBounds_toArray, List.set_cons_zero, List.set_cons_succ]
  refine rg_take (i := 45) (d := some 50) (l := #[true, true, true, false, false, false, true, true, true, false, false, false, true, true, true, false, false, false, false, true, true, true, false, false, false, true, true, true, false, false, false, true, true, true, false, false, false, true, true, true, false, false, false, true, true, true, false, false, false, false]) (fuel := 26) (v := ?_) rfl (by kernel_rfl) (by kernel_rfl) (by kernel_rfl) (by kernel_rfl) (by kernel_rfl) (fun _ _ _ h => h) (by kernel_rfl) ?_ (by assumption) ?_
  rotate_left 1
  · (intro wS hSw; (try dsimp only at hSw); go_simp; try with_reducible rfl)
  try simp only [Act.put, List.setIfInBounds_toArray, List.set_cons_zero, List.set_cons_succ]
  refine rg_take (i := 46) (d := some 51) (l := #[true, true, true, false, false, false, true, true, true, false, false, false, true, true, true, false, false, false, false, true, true, true, false, false, false, true, true, true, false, false, false, true, true, true, false, false, false, true, true, true, false, false, false, true, true, true, true, false, false, false]) (fuel := 25) (v := ?_) rfl (by kernel_rfl) (by kernel_rfl) (by kernel_rfl) (by kernel_rfl) (by kernel_rfl) (fun _ _ _ h => h) (by kernel_rfl) ?_ (by assumption) ?_
  rotate_left 1
  · (intro wS hSw; (try dsimp only at hSw); go_simp; try with_reducible rfl)
  try simp only [Act.put, List.setIfInBounds_toArray, List.set_cons_zero, List.set_cons_succ]
  refine rg_next (i := 3) (l := #[true, true, true, true, false, false, true, true, true, false, false, false, true, true, true, false, false, false, false, true, true, true, false, false, false, true, true, true, false, false, false, true, true, true, false, false, false, true, true, true, false, false, false, true, true, true, true, false, false, false]) (fuel := 24) (by kernel_rfl) rfl (by kernel_rfl) (by kernel_rfl) (fun K hK => ?_)
  go_simp
  (go_at_call 111)
  obtain ⟨cs, q1, q2⟩ := H.out.tmr
  refine (tclone_any q1).mono ?_
  rintro e w1 ⟨rfl, y1, b1⟩
  obtain ⟨gt, hgt⟩ : ∃ gt, w0.heap.size = gt := ⟨_, rfl⟩
  have N1 : Hid (Blk w1 gt 88 #[.int .i64 x.tm.gone, .int .u8 x.tm.c, .int .u8 x.tm.r, .bool x.tm.on]) := Lib.hid (hgt ▸ y1.1)
  simp only [hgt]
  have z1 : B ≤ gt := by omega
  have hz1 : gt < w1.heap.size := N1.out.lt
  replace KK := Lib.hid (KK.out.trans (Kp.of_below (L := []) b1) (by simp))
  replace H := Lib.hid (H.out.keep b1)
  clear q1 q2 cs y1 b1 hgt hz
  first | (refine hK.out _ _ ?_ (fun hHeld => ?_)) | (go_wp2_with fail; refine hK.out _ _ ?_ (fun hHeld => ?_))
  · (try dsimp only); exact H.out.nw.1
  clear hK K
  try simp only [Act.put, List.setIfInBounds_toArray, List.set_cons_zero, List.set_cons_succ]
  refine rg_take (i := 4) (d := some 9) (l := #[true, true, true, true, true, false, true, true, true, false, false, false, true, true, true, false, false, false, false, true, true, true, false, false, false, true, true, true, false, false, false, true, true, true, false, false, false, true, true, true, false, false, false, true, true, true, true, false, false, false]) (fuel := 23) (v := ?_) rfl (by kernel_rfl) (by kernel_rfl) (by kernel_rfl) (by kernel_rfl) (by kernel_rfl) (fun _ _ _ h => h) (by kernel_rfl) ?_ (by assumption) ?_
  rotate_left 1
  · (intro wS hSw; (try dsimp only at hSw); go_simp; try with_reducible rfl)
  try simp only [Act.put, List.setIfInBounds_toArray, List.set_cons_zero, List.set_cons_succ]
  refine rg_more (S' := fun w' => Blk w' gt 88 #[.int .i64 x.tm.gone, .int .u8 x.tm.c, .int .u8 x.tm.r, .bool x.tm.on] ∧ w'.cell? ⟨g, 22, none⟩ = some (.int .i64 x.now)) (fun w h => h.2) _ _ _ _ ?_
  clear hHeld
  have hHeld : (fun w' : World => Blk w' gt 88 #[.int .i64 x.tm.gone, .int .u8 x.tm.c, .int .u8 x.tm.r, .bool x.tm.on] ∧ w'.cell? ⟨g, 22, none⟩ = some (.int .i64 x.now)) _ := ⟨N1.out, H.out.nw.1⟩
  refine rg_take (i := 5) (d := some 10) (l := #[true, true, true, true, true, true, true, true, true, false, false, false, true, true, true, false, false, false, false, true, true, true, false, false, false, true, true, true, false, false, false, true, true, true, false, false, false, true, true, true, false, false, false, true, true, true, true, false, false, false]) (fuel := 22) (v := .agg #[.int .i64 x.tm.gone, .int .u8 x.tm.c, .int .u8 x.tm.r, .bool x.tm.on]) rfl (by kernel_rfl) (by kernel_rfl) (by kernel_rfl) (by kernel_rfl) (by kernel_rfl) (fun _ _ _ h => h) (by kernel_rfl) ?_ (by assumption) ?_
  · (intro wS hSw; (try dsimp only at hSw); exact exec_load_row 88 (.tmp 9) rfl gt rfl 88 #[.int .i64 x.tm.gone, .int .u8 x.tm.c, .int .u8 x.tm.r, .bool x.tm.on] (0, 0) _ hSw.1 Tryz.underlying88 rfl (by kernel_rfl))
  try simp only [Act.put, List.setIfInBounds_toArray, List.set_cons_zero, List.set_cons_succ]
  refine rg_next (i := 9) (l := #[true, true, true, true, true, true, true, true, true, true, false, false, true, true, true, false, false, false, false, true, true, true, false, false, false, true, true, true, false, false, false, true, true, true, false, false, false, true, true, true, false, false, false, true, true, true, true, false, false, false]) (fuel := 21) (by kernel_rfl) rfl (by kernel_rfl) (by kernel_rfl) (fun K hK => ?_)
  go_simp
  (go_at_call 112)
  refine (hclone_any H.out.lns.1).mono ?_
  rintro e w2 ⟨rfl, ⟨_, A, c, y1, y2⟩, b2⟩
  obtain ⟨gl, hgl⟩ : ∃ gl, w1.heap.size = gl := ⟨_, rfl⟩
  have N2 : Hid (Blk w2 gl 93 #[.slice A d.n c, .int .i64 x.s, .bool (upTo d.es x.s (0 : Nat)), .bool (upTo d.es x.s (1 : Nat)), .bool (upTo d.es x.s (2 : Nat)), .bool (upTo d.es x.s (3 : Nat)), .bool x.ro]) := Lib.hid (hgl ▸ y1)
  have E2 := Lib.hid y2
  simp only [hgl]
  have z2 : B ≤ gl := by omega
  have hz2 : gl < w2.heap.size := N2.out.lt
  replace N1 := Lib.hid (N1.out.kpn (Kp.of_below (L := []) b2) (B := B) (by omega) (by simp))
  replace KK := Lib.hid (KK.out.trans (Kp.of_below (L := []) b2) (by simp))
  replace H := Lib.hid (H.out.keep b2)
  clear y1 y2 b2 hgl hz1
  first | (refine hK.out _ _ ?_ (fun hHeld => ?_)) | (go_wp2_with fail; refine hK.out _ _ ?_ (fun hHeld => ?_))
  · (try dsimp only); exact ⟨N1.out, H.out.nw.1⟩
  clear hK K
  try simp only [Act.put, List.setIfInBounds_toArray, List.set_cons_zero, List.set_cons_succ]
  refine rg_take (i := 10) (d := some 15) (l := #[true, true, true, true, true, true, true, true, true, true, true, false, true, true, true, false, false, false, false, true, true, true, false, false, false, true, true, true, false, false, false, true, true, true, false, false, false, true, true, true, false, false, false, true, true, true, true, false, false, false]) (fuel := 20) (v := ?_) rfl (by kernel_rfl) (by kernel_rfl) (by kernel_rfl) (by kernel_rfl) (by kernel_rfl) (fun _ _ _ h => h) (by kernel_rfl) ?_ (by assumption) ?_
  rotate_left 1
  · (intro wS hSw; (try dsimp only at hSw); go_simp; try with_reducible rfl)
  try simp only [Act.put, List.setIfInBounds_toArray, List.set_cons_zero, List.set_cons_succ]
  refine rg_more (S' := fun w' => Blk w' gl 93 #[.slice A d.n c, .int .i64 x.s, .bool (upTo d.es x.s (0 : Nat)), .bool (upTo d.es x.s (1 : Nat)), .bool (upTo d.es x.s (2 : Nat)), .bool (upTo d.es x.s (3 : Nat)), .bool x.ro] ∧ Blk w' gt 88 #[.int .i64 x.tm.gone, .int .u8 x.tm.c, .int .u8 x.tm.r, .bool x.tm.on] ∧ w'.cell? ⟨g, 22, none⟩ = some (.int .i64 x.now)) (fun w h => h.2) _ _ _ _ ?_
  clear hHeld
  have hHeld : (fun w' : World => Blk w' gl 93 #[.slice A d.n c, .int .i64 x.s, .bool (upTo d.es x.s (0 : Nat)), .bool (upTo d.es x.s (1 : Nat)), .bool (upTo d.es x.s (2 : Nat)), .bool (upTo d.es x.s (3 : Nat)), .bool x.ro] ∧ Blk w' gt 88 #[.int .i64 x.tm.gone, .int .u8 x.tm.c, .int .u8 x.tm.r, .bool x.tm.on] ∧ w'.cell? ⟨g, 22, none⟩ = some (.int .i64 x.now)) _ := ⟨N2.out, N1.out, H.out.nw.1⟩
  refine rg_take (i := 11) (d := some 16) (l := #[true, true, true, true, true, true, true, true, true, true, true, true, true, true, true, false, false, false, false, true, true, true, false, false, false, true, true, true, false, false, false, true, true, true, false, false, false, true, true, true, false, false, false, true, true, true, true, false, false, false]) (fuel := 19) (v := .agg #[.slice A d.n c, .int .i64 x.s, .bool (upTo d.es x.s (0 : Nat)), .bool (upTo d.es x.s (1 : Nat)), .bool (upTo d.es x.s (2 : Nat)), .bool (upTo d.es x.s (3 : Nat)), .bool x.ro]) rfl (by kernel_rfl) (by kernel_rfl) (by kernel_rfl) (by kernel_rfl) (by kernel_rfl) (fun _ _ _ h => h) (by kernel_rfl) ?_ (by assumption) ?_
  · (intro wS hSw; (try dsimp only at hSw); exact exec_load_row 93 (.tmp 15) rfl gl rfl 93 #[.slice A d.n c, .int .i64 x.s, .bool (upTo d.es x.s (0 : Nat)), .bool (upTo d.es x.s (1 : Nat)), .bool (upTo d.es x.s (2 : Nat)), .bool (upTo d.es x.s (3 : Nat)), .bool x.ro] (0, 0) _ hSw.1 Tryz.underlying93 rfl (by kernel_rfl))
  try simp only [Act.put, List.setIfInBounds_toArray, List.set_cons_zero, List.set_cons_succ]
  refine rg_next (i := 15) (l := #[true, true, true, true, true, true, true, true, true, true, true, true, true, true, true, true, false, false, false, true, true, true, false, false, false, true, true, true, false, false, false, true, true, true, false, false, false, true, true, true, false, false, false, true, true, true, true, false, false, false]) (fuel := 18) (by kernel_rfl) rfl (by kernel_rfl) (by kernel_rfl) (fun K hK => ?_)
  go_simp
  (go_at_call 113)
  refine (pvalue_any H.out.lat.1).mono ?_
  rintro e w' ⟨rfl, rfl⟩
  first | (refine hK.out _ _ ?_ (fun hHeld => ?_)) | (go_wp2_with fail; refine hK.out _ _ ?_ (fun hHeld => ?_))
  · (try dsimp only); exact ⟨N2.out, N1.out, H.out.nw.1⟩
  clear hK K
  try simp only [Act.put, List.setIfInBounds_toArray, List.set_cons_zero, List.set_cons_succ]
  refine rg_next (i := 16) (l := #[true, true, true, true, true, true, true, true, true, true, true, true, true, true, true, true, true, false, false, true, true, true, false, false, false, true, true, true, false, false, false, true, true, true, false, false, false, true, true, true, false, false, false, true, true, true, true, false, false, false]) (fuel := 17) (by kernel_rfl) rfl (by kernel_rfl) (by kernel_rfl) (fun K hK => ?_)
  go_simp
  (go_at_call 42)
  refine (lnew_any x.buf w2).mono ?_
  rintro e w3 ⟨rfl, y1⟩
  have b3 : Below w2.heap.size w2 w3 := y1 ▸ (Below.refl _ _).alloc (Nat.le_refl _) _
  obtain ⟨gb, hgb⟩ : ∃ gb, w2.heap.size = gb := ⟨_, rfl⟩
  have N3 : Hid (Blk w3 gb 95 #[.int .u8 x.buf]) := Lib.hid (by rw [y1]; exact Blk.new_ hgb.symm)
  clear y1
  simp only [hgb]
  have z3 : B ≤ gb := by omega
  have hz3 : gb < w3.heap.size := N3.out.lt
  replace N1 := Lib.hid (N1.out.kpn (Kp.of_below (L := []) b3) (B := B) (by omega) (by simp))
  replace N2 := Lib.hid (N2.out.kpn (Kp.of_below (L := []) b3) (B := B) (by omega) (by simp))
  replace E2 := Lib.hid (E2.out.kp (Kp.of_below (L := []) b3) (fun y hy => by cases hy))
  replace KK := Lib.hid (KK.out.trans (Kp.of_below (L := []) b3) (by simp))
  replace H := Lib.hid (H.out.keep b3)
  clear b3 hgb hz2
  first | (refine hK.out _ _ ?_ (fun hHeld => ?_)) | (go_wp2_with fail; refine hK.out _ _ ?_ (fun hHeld => ?_))
  · (try dsimp only); exact ⟨N2.out, N1.out, H.out.nw.1⟩
  clear hK K
  try simp only [Act.put, List.setIfInBounds_toArray, List.set_cons_zero, List.set_cons_succ]
  refine rg_take (i := 17) (d := some 22) (l := #[true, true, true, true, true, true, true, true, true, true, true, true, true, true, true, true, true, true, false, true, true, true, false, false, false, true, true, true, false, false, false, true, true, true, false, false, false, true, true, true, false, false, false, true, true, true, true, false, false, false]) (fuel := 16) (v := ?_) rfl (by kernel_rfl) (by kernel_rfl) (by kernel_rfl) (by kernel_rfl) (by kernel_rfl) (fun _ _ _ h => h) (by kernel_rfl) ?_ (by assumption) ?_
  rotate_left 1
  · (intro wS hSw; (try dsimp only at hSw); go_simp; try with_reducible rfl)
  try simp only [Act.put, List.setIfInBounds_toArray, List.set_cons_zero, List.set_cons_succ]
  refine rg_more (S' := fun w' => Blk w' gb 95 #[.int .u8 x.buf] ∧ Blk w' gl 93 #[.slice A d.n c, .int .i64 x.s, .bool (upTo d.es x.s (0 : Nat)), .bool (upTo d.es x.s (1 : Nat)), .bool (upTo d.es x.s (2 : Nat)), .bool (upTo d.es x.s (3 : Nat)), .bool x.ro] ∧ Blk w' gt 88 #[.int .i64 x.tm.gone, .int .u8 x.tm.c, .int .u8 x.tm.r, .bool x.tm.on] ∧ w'.cell? ⟨g, 22, none⟩ = some (.int .i64 x.now)) (fun w h => h.2) _ _ _ _ ?_
  clear hHeld
  have hHeld : (fun w' : World => Blk w' gb 95 #[.int .u8 x.buf] ∧ Blk w' gl 93 #[.slice A d.n c, .int .i64 x.s, .bool (upTo d.es x.s (0 : Nat)), .bool (upTo d.es x.s (1 : Nat)), .bool (upTo d.es x.s (2 : Nat)), .bool (upTo d.es x.s (3 : Nat)), .bool x.ro] ∧ Blk w' gt 88 #[.int .i64 x.tm.gone, .int .u8 x.tm.c, .int .u8 x.tm.r, .bool x.tm.on] ∧ w'.cell? ⟨g, 22, none⟩ = some (.int .i64 x.now)) _ := ⟨N3.out, N2.out, N1.out, H.out.nw.1⟩
  refine rg_take (i := 18) (d := some 23) (l := #[true, true, true, true, true, true, true, true, true, true, true, true, true, true, true, true, true, true, true, true, true, true, false, false, false, true, true, true, false, false, false, true, true, true, false, false, false, true, true, true, false, false, false, true, true, true, true, false, false, false]) (fuel := 15) (v := .agg #[.int .u8 x.buf]) rfl (by kernel_rfl) (by kernel_rfl) (by kernel_rfl) (by kernel_rfl) (by kernel_rfl) (fun _ _ _ h => h) (by kernel_rfl) ?_ (by assumption) ?_
  · (intro wS hSw; (try dsimp only at hSw); exact exec_load_row 95 (.tmp 22) rfl gb rfl 95 #[.int .u8 x.buf] (0, 0) _ hSw.1 Tryz.underlying95 rfl (by kernel_rfl))
  try simp only [Act.put, List.setIfInBounds_toArray, List.set_cons_zero, List.set_cons_succ]
  refine rg_next (i := 22) (l := #[true, true, true, true, true, true, true, true, true, true, true, true, true, true, true, true, true, true, true, true, true, true, true, false, false, true, true, true, false, false, false, true, true, true, false, false, false, true, true, true, false, false, false, true, true, true, true, false, false, false]) (fuel := 14) (by kernel_rfl) rfl (by kernel_rfl) (by kernel_rfl) (fun K hK => ?_)
  go_simp
  (go_at_call 114)
  obtain ⟨cs, q1, q2⟩ := H.out.irq
  refine (qclone_any q1).mono ?_
  rintro e w4 ⟨rfl, y1, b4⟩
  obtain ⟨gi, hgi⟩ : ∃ gi, w3.heap.size = gi := ⟨_, rfl⟩
  have N4 : Hid (Blk w4 gi 99 #[.int .u8 x.q.d, .bool x.q.due]) := Lib.hid (hgi ▸ y1.1)
  simp only [hgi]
  have z4 : B ≤ gi := by omega
  have hz4 : gi < w4.heap.size := N4.out.lt
  replace N1 := Lib.hid (N1.out.kpn (Kp.of_below (L := []) b4) (B := B) (by omega) (by simp))
  replace N2 := Lib.hid (N2.out.kpn (Kp.of_below (L := []) b4) (B := B) (by omega) (by simp))
  replace N3 := Lib.hid (N3.out.kpn (Kp.of_below (L := []) b4) (B := B) (by omega) (by simp))
  replace E2 := Lib.hid (E2.out.kp (Kp.of_below (L := []) b4) (fun y hy => by cases hy))
  replace KK := Lib.hid (KK.out.trans (Kp.of_below (L := []) b4) (by simp))
  replace H := Lib.hid (H.out.keep b4)
  clear q1 q2 cs y1 b4 hgi hz3
  first | (refine hK.out _ _ ?_ (fun hHeld => ?_)) | (go_wp2_with fail; refine hK.out _ _ ?_ (fun hHeld => ?_))
  · (try dsimp only); exact ⟨N3.out, N2.out, N1.out, H.out.nw.1⟩
  clear hK K
  try simp only [Act.put, List.setIfInBounds_toArray, List.set_cons_zero, List.set_cons_succ]
  refine rg_take (i := 23) (d := some 28) (l := #[true, true, true, true, true, true, true, true, true, true, true, true, true, true, true, true, true, true, true, true, true, true, true, true, false, true, true, true, false, false, false, true, true, true, false, false, false, true, true, true, false, false, false, true, true, true, true, false, false, false]) (fuel := 13) (v := ?_) rfl (by kernel_rfl) (by kernel_rfl) (by kernel_rfl) (by kernel_rfl) (by kernel_rfl) (fun _ _ _ h => h) (by kernel_rfl) ?_ (by assumption) ?_
  rotate_left 1
  · (intro wS hSw; (try dsimp only at hSw); go_simp; try with_reducible rfl)
  try simp only [Act.put, List.setIfInBounds_toArray, List.set_cons_zero, List.set_cons_succ]
  refine rg_more (S' := fun w' => Blk w' gi 99 #[.int .u8 x.q.d, .bool x.q.due] ∧ Blk w' gb 95 #[.int .u8 x.buf] ∧ Blk w' gl 93 #[.slice A d.n c, .int .i64 x.s, .bool (upTo d.es x.s (0 : Nat)), .bool (upTo d.es x.s (1 : Nat)), .bool (upTo d.es x.s (2 : Nat)), .bool (upTo d.es x.s (3 : Nat)), .bool x.ro] ∧ Blk w' gt 88 #[.int .i64 x.tm.gone, .int .u8 x.tm.c, .int .u8 x.tm.r, .bool x.tm.on] ∧ w'.cell? ⟨g, 22, none⟩ = some (.int .i64 x.now)) (fun w h => h.2) _ _ _ _ ?_
  clear hHeld
  have hHeld : (fun w' : World => Blk w' gi 99 #[.int .u8 x.q.d, .bool x.q.due] ∧ Blk w' gb 95 #[.int .u8 x.buf] ∧ Blk w' gl 93 #[.slice A d.n c, .int .i64 x.s, .bool (upTo d.es x.s (0 : Nat)), .bool (upTo d.es x.s (1 : Nat)), .bool (upTo d.es x.s (2 : Nat)), .bool (upTo d.es x.s (3 : Nat)), .bool x.ro] ∧ Blk w' gt 88 #[.int .i64 x.tm.gone, .int .u8 x.tm.c, .int .u8 x.tm.r, .bool x.tm.on] ∧ w'.cell? ⟨g, 22, none⟩ = some (.int .i64 x.now)) _ := ⟨N4.out, N3.out, N2.out, N1.out, H.out.nw.1⟩
  refine rg_take (i := 24) (d := some 29) (l := #[true, true, true, true, true, true, true, true, true, true, true, true, true, true, true, true, true, true, true, true, true, true, true, true, true, true, true, true, false, false, false, true, true, true, false, false, false, true, true, true, false, false, false, true, true, true, true, false, false, false]) (fuel := 12) (v := .agg #[.int .u8 x.q.d, .bool x.q.due]) rfl (by kernel_rfl) (by kernel_rfl) (by kernel_rfl) (by kernel_rfl) (by kernel_rfl) (fun _ _ _ h => h) (by kernel_rfl) ?_ (by assumption) ?_
  · (intro wS hSw; (try dsimp only at hSw); exact exec_load_row 99 (.tmp 28) rfl gi rfl 99 #[.int .u8 x.q.d, .bool x.q.due] (0, 0) _ hSw.1 Tryz.underlying99 rfl (by kernel_rfl))
  try simp only [Act.put, List.setIfInBounds_toArray, List.set_cons_zero, List.set_cons_succ]
  refine rg_next (i := 28) (l := #[true, true, true, true, true, true, true, true, true, true, true, true, true, true, true, true, true, true, true, true, true, true, true, true, true, true, true, true, true, false, false, true, true, true, false, false, false, true, true, true, false, false, false, true, true, true, true, false, false, false]) (fuel := 11) (by kernel_rfl) rfl (by kernel_rfl) (by kernel_rfl) (fun K hK => ?_)
  go_simp
  (go_at_call 115)
  obtain ⟨cs, q1, q2⟩ := H.out.prt
  refine (pclone_any q1 hd.1).mono ?_
  rintro e w5 ⟨gp, bp, rfl, r1, r2, y1, y2, k5⟩
  have N5 : Hid (Blk w5 gp 106 #[giveV bp, .int .i64 x.tp, .int .u8 x.pt.l, .int .i64 x.pt.p]) := Lib.hid y1.1.1
  have M5 : Hid (Box w5 bp (d.np - x.tp) (fun i => d.zp (x.tp + i))) := Lib.hid y1.1.2.2
  have z5 : B ≤ gp ∧ B ≤ bp := by omega
  have hz5 : bp < w5.heap.size ∧ w4.heap.size ≤ w5.heap.size := ⟨PT.ltc y1, k5.size⟩
  have off := H.out.boxOff.2.2
  replace N1 := Lib.hid (N1.out.kpn k5 (B := B) (by omega) (by simp; omega))
  replace N2 := Lib.hid (N2.out.kpn k5 (B := B) (by omega) (by simp; omega))
  replace N3 := Lib.hid (N3.out.kpn k5 (B := B) (by omega) (by simp; omega))
  replace N4 := Lib.hid (N4.out.kpn k5 (B := B) (by omega) (by simp; omega))
  replace E2 := Lib.hid (E2.out.kp k5 (fun y hy => by obtain rfl := List.mem_singleton.1 hy; obtain ⟨t, cs, o1, _, o2⟩ := off; exact ⟨t, cs, o1, o2⟩))
  replace KK := Lib.hid (KK.out.trans k5 (by simp))
  replace H := Lib.hid (q2 _ _ _ _ y2 k5 (by simp))
  clear q1 q2 cs y1 y2 k5 off r1 r2
  first | (refine hK.out _ _ ?_ (fun hHeld => ?_)) | (go_wp2_with fail; refine hK.out _ _ ?_ (fun hHeld => ?_))
  · (try dsimp only); exact ⟨N4.out, N3.out, N2.out, N1.out, H.out.nw.1⟩
  clear hK K
  try simp only [Act.put, List.setIfInBounds_toArray, List.set_cons_zero, List.set_cons_succ]
  refine rg_take (i := 29) (d := some 34) (l := #[true, true, true, true, true, true, true, true, true, true, true, true, true, true, true, true, true, true, true, true, true, true, true, true, true, true, true, true, true, true, false, true, true, true, false, false, false, true, true, true, false, false, false, true, true, true, true, false, false, false]) (fuel := 10) (v := ?_) rfl (by kernel_rfl) (by kernel_rfl) (by kernel_rfl) (by kernel_rfl) (by kernel_rfl) (fun _ _ _ h => h) (by kernel_rfl) ?_ (by assumption) ?_
  rotate_left 1
  · (intro wS hSw; (try dsimp only at hSw); go_simp; try with_reducible rfl)
  try simp only [Act.put, List.setIfInBounds_toArray, List.set_cons_zero, List.set_cons_succ]
  refine rg_more (S' := fun w' => Blk w' gp 106 #[giveV bp, .int .i64 x.tp, .int .u8 x.pt.l, .int .i64 x.pt.p] ∧ Blk w' gi 99 #[.int .u8 x.q.d, .bool x.q.due] ∧ Blk w' gb 95 #[.int .u8 x.buf] ∧ Blk w' gl 93 #[.slice A d.n c, .int .i64 x.s, .bool (upTo d.es x.s (0 : Nat)), .bool (upTo d.es x.s (1 : Nat)), .bool (upTo d.es x.s (2 : Nat)), .bool (upTo d.es x.s (3 : Nat)), .bool x.ro] ∧ Blk w' gt 88 #[.int .i64 x.tm.gone, .int .u8 x.tm.c, .int .u8 x.tm.r, .bool x.tm.on] ∧ w'.cell? ⟨g, 22, none⟩ = some (.int .i64 x.now)) (fun w h => h.2) _ _ _ _ ?_
  clear hHeld
  have hHeld : (fun w' : World => Blk w' gp 106 #[giveV bp, .int .i64 x.tp, .int .u8 x.pt.l, .int .i64 x.pt.p] ∧ Blk w' gi 99 #[.int .u8 x.q.d, .bool x.q.due] ∧ Blk w' gb 95 #[.int .u8 x.buf] ∧ Blk w' gl 93 #[.slice A d.n c, .int .i64 x.s, .bool (upTo d.es x.s (0 : Nat)), .bool (upTo d.es x.s (1 : Nat)), .bool (upTo d.es x.s (2 : Nat)), .bool (upTo d.es x.s (3 : Nat)), .bool x.ro] ∧ Blk w' gt 88 #[.int .i64 x.tm.gone, .int .u8 x.tm.c, .int .u8 x.tm.r, .bool x.tm.on] ∧ w'.cell? ⟨g, 22, none⟩ = some (.int .i64 x.now)) _ := ⟨N5.out, N4.out, N3.out, N2.out, N1.out, H.out.nw.1⟩
  refine rg_take (i := 30) (d := some 35) (l := #[true, true, true, true, true, true, true, true, true, true, true, true, true, true, true, true, true, true, true, true, true, true, true, true, true, true, true, true, true, true, true, true, true, true, false, false, false, true, true, true, false, false, false, true, true, true, true, false, false, false]) (fuel := 9) (v := .agg #[giveV bp, .int .i64 x.tp, .int .u8 x.pt.l, .int .i64 x.pt.p]) rfl (by kernel_rfl) (by kernel_rfl) (by kernel_rfl) (by kernel_rfl) (by kernel_rfl) (fun _ _ _ h => h) (by kernel_rfl) ?_ (by assumption) ?_
  · (intro wS hSw; (try dsimp only at hSw); exact exec_load_row 106 (.tmp 34) rfl gp rfl 106 #[giveV bp, .int .i64 x.tp, .int .u8 x.pt.l, .int .i64 x.pt.p] (0, 0) _ hSw.1 Tryz.underlying106 rfl (by kernel_rfl))
  try simp only [Act.put, List.setIfInBounds_toArray, List.set_cons_zero, List.set_cons_succ]
  refine rg_next (i := 34) (l := #[true, true, true, true, true, true, true, true, true, true, true, true, true, true, true, true, true, true, true, true, true, true, true, true, true, true, true, true, true, true, true, true, true, true, true, false, false, true, true, true, false, false, false, true, true, true, true, false, false, false]) (fuel := 8) (by kernel_rfl) rfl (by kernel_rfl) (by kernel_rfl) (fun K hK => ?_)
  go_simp
  (go_at_call 116)
  obtain ⟨cs, q1, q2⟩ := H.out.fdv
  refine (fpclone_any q1 (by omega)).mono ?_
  rintro e w6 ⟨gv, bv, rfl, r1, r2, y1, y2, k6⟩
  have N6 : Hid (Blk w6 gv 104 #[giveV bv, .int .i64 x.tv]) := Lib.hid y1.1
  have M6 : Hid (Box w6 bv (d.nv - x.tv) (fun i => d.zv (x.tv + i))) := Lib.hid y1.2.2
  have z6 : B ≤ gv ∧ B ≤ bv ∧ bp < bv := by omega
  have hz6 : bv < w6.heap.size ∧ w5.heap.size ≤ w6.heap.size := ⟨FP.ltc y1, k6.size⟩
  have off := H.out.boxOff.1
  replace N1 := Lib.hid (N1.out.kpn k6 (B := B) (by omega) (by simp; omega))
  replace N2 := Lib.hid (N2.out.kpn k6 (B := B) (by omega) (by simp; omega))
  replace N3 := Lib.hid (N3.out.kpn k6 (B := B) (by omega) (by simp; omega))
  replace N4 := Lib.hid (N4.out.kpn k6 (B := B) (by omega) (by simp; omega))
  replace N5 := Lib.hid (N5.out.kpn k6 (B := B) (by omega) (by simp; omega))
  replace M5 := Lib.hid (M5.out.kpn k6 (fun y hy => by obtain rfl := List.mem_singleton.1 hy; obtain ⟨t, cs, o1, o2, _⟩ := off; exact ⟨t, cs, o1, o2⟩) (B := B) (by omega) (by simp; omega))
  replace E2 := Lib.hid (E2.out.kp k6 (fun y hy => by obtain rfl := List.mem_singleton.1 hy; obtain ⟨t, cs, o1, _, o2⟩ := off; exact ⟨t, cs, o1, o2⟩))
  replace KK := Lib.hid (KK.out.trans k6 (by simp))
  replace H := Lib.hid (q2 _ _ _ y2 k6 (by simp))
  clear q1 q2 cs y1 y2 k6 off r1 r2
  first | (refine hK.out _ _ ?_ (fun hHeld => ?_)) | (go_wp2_with fail; refine hK.out _ _ ?_ (fun hHeld => ?_))
  · (try dsimp only); exact ⟨N5.out, N4.out, N3.out, N2.out, N1.out, H.out.nw.1⟩
  clear hK K
  try simp only [Act.put, List.setIfInBounds_toArray, List.set_cons_zero, List.set_cons_succ]
  refine rg_take (i := 35) (d := some 40) (l := #[true, true, true, true, true, true, true, true, true, true, true, true, true, true, true, true, true, true, true, true, true, true, true, true, true, true, true, true, true, true, true, true, true, true, true, true, false, true, true, true, false, false, false, true, true, true, true, false, false, false]) (fuel := 7) (v := ?_) rfl (by kernel_rfl) (by kernel_rfl) (by kernel_rfl) (by kernel_rfl) (by kernel_rfl) (fun _ _ _ h => h) (by kernel_rfl) ?_ (by assumption) ?_
  rotate_left 1
  · (intro wS hSw; (try dsimp only at hSw); go_simp; try with_reducible rfl)
  try simp only [Act.put, List.setIfInBounds_toArray, List.set_cons_zero, List.set_cons_succ]
  refine rg_more (S' := fun w' => Blk w' gv 104 #[giveV bv, .int .i64 x.tv] ∧ Blk w' gp 106 #[giveV bp, .int .i64 x.tp, .int .u8 x.pt.l, .int .i64 x.pt.p] ∧ Blk w' gi 99 #[.int .u8 x.q.d, .bool x.q.due] ∧ Blk w' gb 95 #[.int .u8 x.buf] ∧ Blk w' gl 93 #[.slice A d.n c, .int .i64 x.s, .bool (upTo d.es x.s (0 : Nat)), .bool (upTo d.es x.s (1 : Nat)), .bool (upTo d.es x.s (2 : Nat)), .bool (upTo d.es x.s (3 : Nat)), .bool x.ro] ∧ Blk w' gt 88 #[.int .i64 x.tm.gone, .int .u8 x.tm.c, .int .u8 x.tm.r, .bool x.tm.on] ∧ w'.cell? ⟨g, 22, none⟩ = some (.int .i64 x.now)) (fun w h => h.2) _ _ _ _ ?_
  clear hHeld
  have hHeld : (fun w' : World => Blk w' gv 104 #[giveV bv, .int .i64 x.tv] ∧ Blk w' gp 106 #[giveV bp, .int .i64 x.tp, .int .u8 x.pt.l, .int .i64 x.pt.p] ∧ Blk w' gi 99 #[.int .u8 x.q.d, .bool x.q.due] ∧ Blk w' gb 95 #[.int .u8 x.buf] ∧ Blk w' gl 93 #[.slice A d.n c, .int .i64 x.s, .bool (upTo d.es x.s (0 : Nat)), .bool (upTo d.es x.s (1 : Nat)), .bool (upTo d.es x.s (2 : Nat)), .bool (upTo d.es x.s (3 : Nat)), .bool x.ro] ∧ Blk w' gt 88 #[.int .i64 x.tm.gone, .int .u8 x.tm.c, .int .u8 x.tm.r, .bool x.tm.on] ∧ w'.cell? ⟨g, 22, none⟩ = some (.int .i64 x.now)) _ := ⟨N6.out, N5.out, N4.out, N3.out, N2.out, N1.out, H.out.nw.1⟩
  refine rg_take (i := 36) (d := some 41) (l := #[true, true, true, true, true, true, true, true, true, true, true, true, true, true, true, true, true, true, true, true, true, true, true, true, true, true, true, true, true, true, true, true, true, true, true, true, true, true, true, true, false, false, false, true, true, true, true, false, false, false]) (fuel := 6) (v := .agg #[giveV bv, .int .i64 x.tv]) rfl (by kernel_rfl) (by kernel_rfl) (by kernel_rfl) (by kernel_rfl) (by kernel_rfl) (fun _ _ _ h => h) (by kernel_rfl) ?_ (by assumption) ?_
  · (intro wS hSw; (try dsimp only at hSw); exact exec_load_row 104 (.tmp 40) rfl gv rfl 104 #[giveV bv, .int .i64 x.tv] (0, 0) _ hSw.1 Tryz.underlying104 rfl (by kernel_rfl))
  try simp only [Act.put, List.setIfInBounds_toArray, List.set_cons_zero, List.set_cons_succ]
  refine rg_next (i := 40) (l := #[true, true, true, true, true, true, true, true, true, true, true, true, true, true, true, true, true, true, true, true, true, true, true, true, true, true, true, true, true, true, true, true, true, true, true, true, true, true, true, true, true, false, false, true, true, true, true, false, false, false]) (fuel := 5) (by kernel_rfl) rfl (by kernel_rfl) (by kernel_rfl) (fun K hK => ?_)
  go_simp
  (go_at_call 116)
  obtain ⟨cs, q1, q2⟩ := H.out.fdc
  refine (fpclone_any q1 (by omega)).mono ?_
  rintro e w7 ⟨gc, bc, rfl, r1, r2, y1, y2, k7⟩
  have N7 : Hid (Blk w7 gc 104 #[giveV bc, .int .i64 x.tc]) := Lib.hid y1.1
  have M7 : Hid (Box w7 bc (d.nc - x.tc) (fun i => d.zc (x.tc + i))) := Lib.hid y1.2.2
  have z7 : B ≤ gc ∧ B ≤ bc ∧ bv < bc ∧ bp < bc := by omega
  have off := H.out.boxOff.2.1
  replace N1 := Lib.hid (N1.out.kpn k7 (B := B) (by omega) (by simp; omega))
  replace N2 := Lib.hid (N2.out.kpn k7 (B := B) (by omega) (by simp; omega))
  replace N3 := Lib.hid (N3.out.kpn k7 (B := B) (by omega) (by simp; omega))
  replace N4 := Lib.hid (N4.out.kpn k7 (B := B) (by omega) (by simp; omega))
  replace N5 := Lib.hid (N5.out.kpn k7 (B := B) (by omega) (by simp; omega))
  replace N6 := Lib.hid (N6.out.kpn k7 (B := B) (by omega) (by simp; omega))
  replace M5 := Lib.hid (M5.out.kpn k7 (fun y hy => by obtain rfl := List.mem_singleton.1 hy; obtain ⟨t, cs, o1, o2, _⟩ := off; exact ⟨t, cs, o1, o2⟩) (B := B) (by omega) (by simp; omega))
  replace M6 := Lib.hid (M6.out.kpn k7 (fun y hy => by obtain rfl := List.mem_singleton.1 hy; obtain ⟨t, cs, o1, o2, _⟩ := off; exact ⟨t, cs, o1, o2⟩) (B := B) (by omega) (by simp; omega))
  replace E2 := Lib.hid (E2.out.kp k7 (fun y hy => by obtain rfl := List.mem_singleton.1 hy; obtain ⟨t, cs, o1, _, o2⟩ := off; exact ⟨t, cs, o1, o2⟩))
  replace KK := Lib.hid (KK.out.trans k7 (by simp))
  replace H := Lib.hid (q2 _ _ _ y2 k7 (by simp))
  clear q1 q2 cs y1 y2 k7 off r1 r2
  first | (refine hK.out _ _ ?_ (fun hHeld => ?_)) | (go_wp2_with fail; refine hK.out _ _ ?_ (fun hHeld => ?_))
  · (try dsimp only); exact ⟨N6.out, N5.out, N4.out, N3.out, N2.out, N1.out, H.out.nw.1⟩
  clear hK K
  try simp only [Act.put, List.setIfInBounds_toArray, List.set_cons_zero, List.set_cons_succ]
  refine rg_take (i := 41) (d := some 46) (l := #[true, true, true, true, true, true, true, true, true, true, true, true, true, true, true, true, true, true, true, true, true, true, true, true, true, true, true, true, true, true, true, true, true, true, true, true, true, true, true, true, true, true, false, true, true, true, true, false, false, false]) (fuel := 4) (v := ?_) rfl (by kernel_rfl) (by kernel_rfl) (by kernel_rfl) (by kernel_rfl) (by kernel_rfl) (fun _ _ _ h => h) (by kernel_rfl) ?_ (by assumption) ?_
  rotate_left 1
  · (intro wS hSw; (try dsimp only at hSw); go_simp; try with_reducible rfl)
  try simp only [Act.put, List.setIfInBounds_toArray, List.set_cons_zero, List.set_cons_succ]
  refine rg_more (S' := fun w' => Blk w' gc 104 #[giveV bc, .int .i64 x.tc] ∧ Blk w' gv 104 #[giveV bv, .int .i64 x.tv] ∧ Blk w' gp 106 #[giveV bp, .int .i64 x.tp, .int .u8 x.pt.l, .int .i64 x.pt.p] ∧ Blk w' gi 99 #[.int .u8 x.q.d, .bool x.q.due] ∧ Blk w' gb 95 #[.int .u8 x.buf] ∧ Blk w' gl 93 #[.slice A d.n c, .int .i64 x.s, .bool (upTo d.es x.s (0 : Nat)), .bool (upTo d.es x.s (1 : Nat)), .bool (upTo d.es x.s (2 : Nat)), .bool (upTo d.es x.s (3 : Nat)), .bool x.ro] ∧ Blk w' gt 88 #[.int .i64 x.tm.gone, .int .u8 x.tm.c, .int .u8 x.tm.r, .bool x.tm.on] ∧ w'.cell? ⟨g, 22, none⟩ = some (.int .i64 x.now)) (fun w h => h.2) _ _ _ _ ?_
  clear hHeld
  have hHeld : (fun w' : World => Blk w' gc 104 #[giveV bc, .int .i64 x.tc] ∧ Blk w' gv 104 #[giveV bv, .int .i64 x.tv] ∧ Blk w' gp 106 #[giveV bp, .int .i64 x.tp, .int .u8 x.pt.l, .int .i64 x.pt.p] ∧ Blk w' gi 99 #[.int .u8 x.q.d, .bool x.q.due] ∧ Blk w' gb 95 #[.int .u8 x.buf] ∧ Blk w' gl 93 #[.slice A d.n c, .int .i64 x.s, .bool (upTo d.es x.s (0 : Nat)), .bool (upTo d.es x.s (1 : Nat)), .bool (upTo d.es x.s (2 : Nat)), .bool (upTo d.es x.s (3 : Nat)), .bool x.ro] ∧ Blk w' gt 88 #[.int .i64 x.tm.gone, .int .u8 x.tm.c, .int .u8 x.tm.r, .bool x.tm.on] ∧ w'.cell? ⟨g, 22, none⟩ = some (.int .i64 x.now)) _ := ⟨N7.out, N6.out, N5.out, N4.out, N3.out, N2.out, N1.out, H.out.nw.1⟩
  refine rg_take (i := 42) (d := some 47) (l := #[true, true, true, true, true, true, true, true, true, true, true, true, true, true, true, true, true, true, true, true, true, true, true, true, true, true, true, true, true, true, true, true, true, true, true, true, true, true, true, true, true, true, true, true, true, true, true, false, false, false]) (fuel := 3) (v := .agg #[giveV bc, .int .i64 x.tc]) rfl (by kernel_rfl) (by kernel_rfl) (by kernel_rfl) (by kernel_rfl) (by kernel_rfl) (fun _ _ _ h => h) (by kernel_rfl) ?_ (by assumption) ?_
  · (intro wS hSw; (try dsimp only at hSw); exact exec_load_row 104 (.tmp 46) rfl gc rfl 104 #[giveV bc, .int .i64 x.tc] (0, 0) _ hSw.1 Tryz.underlying104 rfl (by kernel_rfl))
  try simp only [Act.put, List.setIfInBounds_toArray, List.set_cons_zero, List.set_cons_succ]
  refine rg_take (i := 47) (d := some 52) (l := #[true, true, true, true, true, true, true, true, true, true, true, true, true, true, true, true, true, true, true, true, true, true, true, true, true, true, true, true, true, true, true, true, true, true, true, true, true, true, true, true, true, true, true, true, true, true, true, true, false, false]) (fuel := 2) (v := ?_) rfl (by kernel_rfl) (by kernel_rfl) (by kernel_rfl) (by kernel_rfl) (by kernel_rfl) (fun _ _ _ h => h) (by kernel_rfl) ?_ (by assumption) ?_
  rotate_left 1
  · (intro wS hSw; (try dsimp only at hSw); go_simp; try with_reducible rfl)
  try simp only [Act.put, List.setIfInBounds_toArray, List.set_cons_zero, List.set_cons_succ]
  unfold giveV
  refine rg_next (i := 48) (l := #[true, true, true, true, true, true, true, true, true, true, true, true, true, true, true, true, true, true, true, true, true, true, true, true, true, true, true, true, true, true, true, true, true, true, true, true, true, true, true, true, true, true, true, true, true, true, true, true, true, false]) (fuel := 1) (by kernel_rfl) rfl (by kernel_rfl) (by kernel_rfl) (fun K hK => ?_)
  go_simp
  have b8 : Below w7.heap.size w7 (w7.alloc (.cells (hpC d ⟨bv, bc, bp⟩ A c x) 112)) := (Below.refl _ _).alloc (Nat.le_refl _) _
  have N8 := Lib.hid (Blk.new w7 112 (hpC d ⟨bv, bc, bp⟩ A c x))
  have O8 : Hid (HPo (w7.alloc (.cells (hpC d ⟨bv, bc, bp⟩ A c x) 112)) d ⟨bv, bc, bp⟩ A c x) := Lib.hid ⟨E2.out.keep b8, M6.out.kp (Kp.of_below (L := []) b8) (fun y hy => by cases hy) (by simp), M7.out.kp (Kp.of_below (L := []) b8) (fun y hy => by cases hy) (by simp), M5.out.kp (Kp.of_below (L := []) b8) (fun y hy => by cases hy) (by simp), ⟨(by dsimp only; omega), (by dsimp only; omega), (by dsimp only; omega)⟩, H.out.ok, H.out.gd⟩
  have H8 := Lib.hid (H.out.keep b8)
  have K8 := Lib.hid (KK.out.trans (Kp.of_below (L := []) b8) (by simp))
  have z8 : B ≤ w7.heap.size := (by have := N7.out.lt; omega)
  first | (refine hK.out _ _ ?_ (fun hHeld => ?_)) | (go_wp2_with fail; refine hK.out _ _ ?_ (fun hHeld => ?_))
  · (try dsimp only); exact ⟨N7.out.below b8 N7.out.lt, N6.out.below b8 N6.out.lt, N5.out.below b8 N5.out.lt, N4.out.below b8 N4.out.lt, N3.out.below b8 N3.out.lt, N2.out.below b8 N2.out.lt, N1.out.below b8 N1.out.lt, H8.out.nw.1⟩
  clear hK K
  try simp only [Act.put, List.setIfInBounds_toArray, List.set_cons_zero, List.set_cons_succ]
  refine rg_take (i := 49) (d := some 2) (l := #[true, true, true, true, true, true, true, true, true, true, true, true, true, true, true, true, true, true, true, true, true, true, true, true, true, true, true, true, true, true, true, true, true, true, true, true, true, true, true, true, true, true, true, true, true, true, true, true, true, true]) (fuel := 0) (v := ?_) rfl (by kernel_rfl) (by kernel_rfl) (by kernel_rfl) (by kernel_rfl) (by kernel_rfl) (fun _ _ _ h => h) (by kernel_rfl) ?_ (by assumption) ?_
  rotate_left 1
  · (intro wS hSw; (try dsimp only at hSw); go_simp; try with_reducible rfl)
  try simp only [Act.put, List.setIfInBounds_toArray, List.set_cons_zero, List.set_cons_succ]
  refine wpAnyH_done (by kernel_rfl) ?_ _
  go_wp2_with fail
  go_ret
  exact ⟨w7.heap.size, ⟨bv, bc, bp⟩, rfl, by rw [HBB.out]; exact ⟨by omega, by dsimp only; omega, by dsimp only; omega, by dsimp only; omega⟩, ⟨A, c, N8.out, O8.out⟩, H8.out, K8.out⟩
end
end Go.Proofs.YtccimkmlbcgekaaGreat
