/-
  Texts of these proofs, one behind the other: Hard4, Hard5.
-/
import Derived.Test.YtcnjekballnncaaGreatKH29
import Derived.Test.YtcnjekballnncaaGreatKH31
namespace Go.Proofs.YtcnjekballnncaaGreat
open Go.RowKit
set_option linter.unusedVariables false
set_option linter.unusedSimpArgs false
set_option maxRecDepth 100000
theorem addr_v {b o a : Int} {w : World} (b0 : 0 ≤ b) (b1 : b ≤ 255) (o0 : 0 ≤ o) (o1 : o ≤ 65535) (e : b * 8192 + o % 8192 = a) :
    Calls Tryz.prog 64 #[.int .u8 b, .int .u16 o] w fun e w' => e = .returned (.int .u32 a) ∧ w = w' := e ▸ addr_any b o w b0 b1 o0 o1
theorem where_v {a k : Int} {w : World} (a0 : 0 ≤ a) (a1 : a ≤ 4294967295) (e : whereI a = k) : Calls Tryz.prog 65 #[.int .u32 a] w fun e w' => e = .returned (.int .u8 k) ∧ Below w.heap.size w w' := e ▸ where_any a w a0 a1
theorem reg_v {a k : Int} {w : World} (a0 : 0 ≤ a) (a1 : a ≤ 4294967295) (e : regI a = k) : Calls Tryz.prog 67 #[.int .u32 a] w fun e w' => e = .returned (.int .i64 k) ∧ Below w.heap.size w w' := e ▸ reg_any a w a0 a1
/-- The address of a place of the last bank. -/
def plA (off : Int) : Int := 255 * 8192 + off % 8192
theorem plA_bd (off : Int) (h0 : 0 ≤ off) : 0 ≤ plA off ∧ plA off ≤ 4294967295 := by unfold plA; omega
/-- What is read of a register of the controller, and what the buffer has then. -/
def Hp.ri (d : Hd) (x : Hp) (r : Int) : Int :=
  if r = 2 then mixI x.buf 7 x.q.d else if r = 3 then mixI x.buf 7 (stV x.q.due (upTo d.es x.s 2) (upTo d.es x.s 3)) else x.buf
/-- What is read at a place of a kind, by its register. -/
def Hp.rv (d : Hd) (x : Hp) (k r : Int) : Int :=
  if k = 3 then peekI (d.nv - x.tv) (fun i => d.zv (x.tv + i)) 0
  else if k = 4 then peekI (d.nc - x.tc) (fun i => d.zc (x.tc + i)) 0
  else if k = 5 then x.buf
  else if k = 6 then mixI x.buf 127 x.tm.c
  else if k = 7 then mixI x.buf 255 (x.pt.val (peekI (d.np - x.tp) (fun i => d.zp (x.tp + i)) 0))
  else if k = 8 then x.ri d r
  else 255
def Hp.rd (d : Hd) (x : Hp) (k r : Int) : Hp :=
  if k = 3 then { x with tv := x.tv + 1 }
  else if k = 4 then { x with tc := x.tc + 1 }
  else if k = 6 ∨ k = 8 then { x with buf := x.rv d k r }
  else if k = 7 then { x with buf := x.rv d k r, tp := if x.pt.takes then x.tp + 1 else x.tp }
  else x
def Hp.lim (x : Hp) (n : Nat) : Prop := x.tv ≤ n ∧ x.tc ≤ n ∧ x.tp ≤ n
theorem fp_shift {w : World} {g : Nat} {T : TypeId} {cs : Array Value} {o cb n t : Nat} {z : Nat → Int} (h : FP w g T cs o cb (n - t - 1) (fun i => z (t + (1 + i))) ((t : Int) + 1)) : FP w g T cs o cb (n - (t + 1)) (fun i => z (t + 1 + i)) ((t + 1 : Nat) : Int) :=
  h.congr (by omega) (fun i _ => by rw [Nat.add_assoc]) (by omega)
theorem stV_byte : ∀ t u2 u3 : Bool, 0 ≤ stV t u2 u3 ∧ stV t u2 u3 ≤ 255 := by decide +kernel
theorem Pt.val_byte (s : Pt) (v : Int) (h0 : 0 ≤ v) (h1 : v ≤ 255) : 0 ≤ s.val v ∧ s.val v ≤ 255 := by
  unfold Pt.val
  split
  · split <;> omega
  · omega
theorem qstatus_iv {w : World} {g : Nat} {T : TypeId} {cs : Array Value} {o : Nat} {s : Iq} (h : IQ w g T cs o s) {u2 u3 : Bool} {x : Int} (e : stV s.due u2 u3 = x) :
    Calls Tryz.prog 105 #[.pointer (some ⟨g, o, none⟩), .bool u2, .bool u3] w fun e w' => e = .returned (.int .u8 x) ∧ Below w.heap.size w w' := e ▸ qstatus_any h u2 u3
section
variable {w : World} {g : Nat} {d : Hd} {b : Hb} {x : Hp}
theorem HP.pbyte (h : HP w g d b x) : 0 ≤ peekI (d.np - x.tp) (fun i => d.zp (x.tp + i)) 0 ∧ peekI (d.np - x.tp) (fun i => d.zp (x.tp + i)) 0 ≤ 255 := by
  obtain ⟨A, c, hb, ho⟩ := h
  obtain ⟨v, _, hs⟩ := ho.p
  exact peekI_byte hs 0
set_option maxHeartbeats 4000000 in
theorem hreadirq_any (h : HP w g d b x) (r : Int) :
    Calls Tryz.prog 74 #[.pointer (some ⟨g, 0, none⟩), .int .i64 r] w (HpR (.int .u8 (x.ri d r)) g d b { x with buf := x.ri d r } [g] w) := by
  have b0 := h.ok.2.2.1.1
  have b1 := h.ok.2.2.1.2
  have k7 := h.ok.2.2.2.1
  have H := Lib.hid h
  by_cases h2 : r = 2
  · subst h2
    have e : x.ri d 2 = mixI x.buf 7 x.q.d := by unfold Hp.ri; rw [if_pos rfl]
    rw [e]
    have mb := mix_byte x.buf 7 x.q.d b0 b1 (by decide) (by decide) (by omega) (by omega)
    have MB := Lib.hid mb
    clear e h mb b0 b1 k7
    go_enter Tryz.func74, Tryz.ntmps74
    go_wp2_with fail
    refine rg_begin (S := fun w' => True) 9 #[false, false, false, false, false, false, false, false, false] (by kernel_rfl) (by kernel_rfl) (by kernel_rfl) ?_ (fun hHeld => ?_)
    · exact trivial
    refine rg_take (i := 0) (d := some 8) (l := #[true, false, false, false, false, false, false, false, false]) (fuel := 8) (v := ?_) rfl (by kernel_rfl) (by kernel_rfl) (by kernel_rfl) (by kernel_rfl) (by kernel_rfl) (fun _ _ _ h => h) (by kernel_rfl) ?_ (by assumption) ?_
    rotate_left 1
    · (intro wS hSw; (try dsimp only at hSw); go_simp; try with_reducible rfl)
    try simp only [Act.put, List.setIfInBounds_toArray, List.set_cons_zero, List.set_cons_succ]
    refine rg_take (i := 1) (d := some 9) (l := #[true, true, false, false, false, false, false, false, false]) (fuel := 7) (v := ?_) rfl (by kernel_rfl) (by kernel_rfl) (by kernel_rfl) (by kernel_rfl) (by kernel_rfl) (fun _ _ _ h => h) (by kernel_rfl) ?_ (by assumption) ?_
    rotate_left 1
    · (intro wS hSw; (try dsimp only at hSw); go_simp; try with_reducible rfl)
    try simp only [Act.put, List.setIfInBounds_toArray, List.set_cons_zero, List.set_cons_succ]
    refine rg_take (i := 2) (d := some 10) (l := #[true, true, true, false, false, false, false, false, false]) (fuel := 6) (v := ?_) rfl (by kernel_rfl) (by kernel_rfl) (by kernel_rfl) (by kernel_rfl) (by kernel_rfl) (fun _ _ _ h => h) (by kernel_rfl) ?_ (by assumption) ?_
    rotate_left 1
    · (intro wS hSw; (try dsimp only at hSw); go_simp; try with_reducible rfl)
    try simp only [Act.put, List.setIfInBounds_toArray, List.set_cons_zero, List.set_cons_succ]
    refine rg_take (i := 3) (d := some 11) (l := #[true, true, true, true, false, false, false, false, false]) (fuel := 5) (v := ?_) rfl (by kernel_rfl) (by kernel_rfl) (by kernel_rfl) (by kernel_rfl) (by kernel_rfl) (fun _ _ _ h => h) (by kernel_rfl) ?_ (by assumption) ?_
    rotate_left 1
    · (intro wS hSw; (try dsimp only at hSw); go_simp; try with_reducible rfl)
    try simp only [Act.put, List.setIfInBounds_toArray, List.set_cons_zero, List.set_cons_succ]
    refine rg_take (i := 4) (d := some 12) (l := #[true, true, true, true, true, false, false, false, false]) (fuel := 4) (v := ?_) rfl (by kernel_rfl) (by kernel_rfl) (by kernel_rfl) (by kernel_rfl) (by kernel_rfl) (fun _ _ _ h => h) (by kernel_rfl) ?_ (by assumption) ?_
    rotate_left 1
    · (intro wS hSw; (try dsimp only at hSw); go_simp; try with_reducible rfl)
    try simp only [Act.put, List.setIfInBounds_toArray, List.set_cons_zero, List.set_cons_succ]
    refine rg_take (i := 5) (d := some 13) (l := #[true, true, true, true, true, true, false, false, false]) (fuel := 3) (v := ?_) rfl (by kernel_rfl) (by kernel_rfl) (by kernel_rfl) (by kernel_rfl) (by kernel_rfl) (fun _ _ _ h => h) (by kernel_rfl) ?_ (by assumption) ?_
    rotate_left 1
    · (intro wS hSw; (try dsimp only at hSw); go_simp; try with_reducible rfl)
    try simp only [Act.put, List.setIfInBounds_toArray, List.set_cons_zero, List.set_cons_succ]
    refine rg_next (i := 6) (l := #[true, true, true, true, true, true, true, false, false]) (fuel := 2) (by kernel_rfl) rfl (by kernel_rfl) (by kernel_rfl) (fun K hK => ?_)
    go_simp
    (go_at_call 49)
    obtain ⟨cs, q1, q2⟩ := (H.out.kp0 (Kp.refl _ _).drew).irq
    refine (qdisable_any q1).mono ?_
    rintro e w' ⟨rfl, rfl⟩
    clear q1 q2 cs
    first | (refine hK.out _ _ ?_ (fun hHeld => ?_)) | (go_wp2_with fail; refine hK.out _ _ ?_ (fun hHeld => ?_))
    · (try dsimp only); try exact trivial
    clear hK K
    try simp only [Act.put, List.setIfInBounds_toArray, List.set_cons_zero, List.set_cons_succ]
    refine rg_next (i := 7) (l := #[true, true, true, true, true, true, true, true, false]) (fuel := 1) (by kernel_rfl) rfl (by kernel_rfl) (by kernel_rfl) (fun K hK => ?_)
    go_simp
    (go_at_call 72)
    obtain ⟨l1, l2, l3⟩ := (H.out.kp0 (Kp.refl _ _).drew).lat
    refine (plread_any l1 l2 7 x.q.d).mono ?_
    rintro e w1 ⟨rfl, rfl⟩
    have Y := Lib.hid (l3 _ MB.out.1 MB.out.2)
    clear l1 l2 l3
    first | (refine hK.out _ _ ?_ (fun hHeld => ?_)) | (go_wp2_with fail; refine hK.out _ _ ?_ (fun hHeld => ?_))
    · (try dsimp only); try exact trivial
    clear hK K
    try simp only [Act.put, List.setIfInBounds_toArray, List.set_cons_zero, List.set_cons_succ]
    refine rg_take (i := 8) (d := some 4) (l := #[true, true, true, true, true, true, true, true, true]) (fuel := 0) (v := ?_) rfl (by kernel_rfl) (by kernel_rfl) (by kernel_rfl) (by kernel_rfl) (by kernel_rfl) (fun _ _ _ h => h) (by kernel_rfl) ?_ (by assumption) ?_
    rotate_left 1
    · (intro wS hSw; (try dsimp only at hSw); go_simp; try with_reducible rfl)
    try simp only [Act.put, List.setIfInBounds_toArray, List.set_cons_zero, List.set_cons_succ]
    refine wpAnyH_done (by kernel_rfl) ?_ _
    go_wp2_with fail
    go_ret
    exact ⟨rfl, Y.out.1, ((Kp.refl [g] w).drew).trans Y.out.2 (by simp)⟩
  · have n2 : (r == 2) = false := by simpa using h2
    by_cases h3 : r = 3
    · subst h3
      obtain ⟨u2, hu2⟩ : ∃ u, upTo d.es x.s 2 = u := ⟨_, rfl⟩
      obtain ⟨u3, hu3⟩ : ∃ u, upTo d.es x.s 3 = u := ⟨_, rfl⟩
      obtain ⟨v, hv⟩ : ∃ v, stV x.q.due u2 u3 = v := ⟨_, rfl⟩
      have e : x.ri d 3 = mixI x.buf 7 v := by unfold Hp.ri; rw [if_neg (by decide), if_pos rfl, hu2, hu3, hv]
      rw [e]
      have vb := stV_byte x.q.due u2 u3
      rw [hv] at vb
      have mb := mix_byte x.buf 7 v b0 b1 (by decide) (by decide) vb.1 vb.2
      have MB := Lib.hid mb
      have U2 := Lib.hid hu2
      have U3 := Lib.hid hu3
      have HV := Lib.hid hv
      clear e h mb b0 b1 k7 h2 n2 hu2 hu3 hv vb
      go_enter Tryz.func74, Tryz.ntmps74
      go_wp2_with fail
      refine rg_begin (S := fun w' => True) 17 #[false, false, false, false, false, false, false, false, false, false, false, false, false, false, false, false, false] (by kernel_rfl) (by kernel_rfl) (by kernel_rfl) ?_ (fun hHeld => ?_)
      · exact trivial
      refine rg_take (i := 0) (d := some 18) (l := #[true, false, false, false, false, false, false, false, false, false, false, false, false, false, false, false, false]) (fuel := 16) (v := ?_) rfl (by kernel_rfl) (by kernel_rfl) (by kernel_rfl) (by kernel_rfl) (by kernel_rfl) (fun _ _ _ h => h) (by kernel_rfl) ?_ (by assumption) ?_
      rotate_left 1
      · (intro wS hSw; (try dsimp only at hSw); go_simp; try with_reducible rfl)
      try simp only [Act.put, List.setIfInBounds_toArray, List.set_cons_zero, List.set_cons_succ]
      refine rg_take (i := 1) (d := some 19) (l := #[true, true, false, false, false, false, false, false, false, false, false, false, false, false, false, false, false]) (fuel := 15) (v := ?_) rfl (by kernel_rfl) (by kernel_rfl) (by kernel_rfl) (by kernel_rfl) (by kernel_rfl) (fun _ _ _ h => h) (by kernel_rfl) ?_ (by assumption) ?_
      rotate_left 1
      · (intro wS hSw; (try dsimp only at hSw); go_simp; try with_reducible rfl)
      try simp only [Act.put, List.setIfInBounds_toArray, List.set_cons_zero, List.set_cons_succ]
      refine rg_take (i := 2) (d := some 20) (l := #[true, true, true, false, false, false, false, false, false, false, false, false, false, false, false, false, false]) (fuel := 14) (v := ?_) rfl (by kernel_rfl) (by kernel_rfl) (by kernel_rfl) (by kernel_rfl) (by kernel_rfl) (fun _ _ _ h => h) (by kernel_rfl) ?_ (by assumption) ?_
      rotate_left 1
      · (intro wS hSw; (try dsimp only at hSw); go_simp; try with_reducible rfl)
      try simp only [Act.put, List.setIfInBounds_toArray, List.set_cons_zero, List.set_cons_succ]
      refine rg_take (i := 3) (d := some 21) (l := #[true, true, true, true, false, false, false, false, false, false, false, false, false, false, false, false, false]) (fuel := 13) (v := ?_) rfl (by kernel_rfl) (by kernel_rfl) (by kernel_rfl) (by kernel_rfl) (by kernel_rfl) (fun _ _ _ h => h) (by kernel_rfl) ?_ (by assumption) ?_
      rotate_left 1
      · (intro wS hSw; (try dsimp only at hSw); go_simp; try with_reducible rfl)
      try simp only [Act.put, List.setIfInBounds_toArray, List.set_cons_zero, List.set_cons_succ]
      refine rg_take (i := 4) (d := some 22) (l := #[true, true, true, true, true, false, false, false, false, false, false, false, false, false, false, false, false]) (fuel := 12) (v := ?_) rfl (by kernel_rfl) (by kernel_rfl) (by kernel_rfl) (by kernel_rfl) (by kernel_rfl) (fun _ _ _ h => h) (by kernel_rfl) ?_ (by assumption) ?_
      rotate_left 1
      · (intro wS hSw; (try dsimp only at hSw); go_simp; try with_reducible rfl)
      try simp only [Act.put, List.setIfInBounds_toArray, List.set_cons_zero, List.set_cons_succ]
      refine rg_take (i := 5) (d := some 23) (l := #[true, true, true, true, true, true, false, false, false, false, false, false, false, false, false, false, false]) (fuel := 11) (v := ?_) rfl (by kernel_rfl) (by kernel_rfl) (by kernel_rfl) (by kernel_rfl) (by kernel_rfl) (fun _ _ _ h => h) (by kernel_rfl) ?_ (by assumption) ?_
      rotate_left 1
      · (intro wS hSw; (try dsimp only at hSw); go_simp; try with_reducible rfl)
      try simp only [Act.put, List.setIfInBounds_toArray, List.set_cons_zero, List.set_cons_succ]
      refine rg_take (i := 6) (d := some 24) (l := #[true, true, true, true, true, true, true, false, false, false, false, false, false, false, false, false, false]) (fuel := 10) (v := ?_) rfl (by kernel_rfl) (by kernel_rfl) (by kernel_rfl) (by kernel_rfl) (by kernel_rfl) (fun _ _ _ h => h) (by kernel_rfl) ?_ (by assumption) ?_
      rotate_left 1
      · (intro wS hSw; (try dsimp only at hSw); go_simp; try with_reducible rfl)
      try simp only [Act.put, List.setIfInBounds_toArray, List.set_cons_zero, List.set_cons_succ]
      refine rg_take (i := 7) (d := some 25) (l := #[true, true, true, true, true, true, true, true, false, false, false, false, false, false, false, false, false]) (fuel := 9) (v := ?_) rfl (by kernel_rfl) (by kernel_rfl) (by kernel_rfl) (by kernel_rfl) (by kernel_rfl) (fun _ _ _ h => h) (by kernel_rfl) ?_ (by assumption) ?_
      rotate_left 1
      · (intro wS hSw; (try dsimp only at hSw); go_simp; try with_reducible rfl)
      try simp only [Act.put, List.setIfInBounds_toArray, List.set_cons_zero, List.set_cons_succ]
      refine rg_take (i := 8) (d := some 26) (l := #[true, true, true, true, true, true, true, true, true, false, false, false, false, false, false, false, false]) (fuel := 8) (v := ?_) rfl (by kernel_rfl) (by kernel_rfl) (by kernel_rfl) (by kernel_rfl) (by kernel_rfl) (fun _ _ _ h => h) (by kernel_rfl) ?_ (by assumption) ?_
      rotate_left 1
      · (intro wS hSw; (try dsimp only at hSw); go_simp; try with_reducible rfl)
      try simp only [Act.put, List.setIfInBounds_toArray, List.set_cons_zero, List.set_cons_succ]
      refine rg_take (i := 10) (d := some 28) (l := #[true, true, true, true, true, true, true, true, true, false, true, false, false, false, false, false, false]) (fuel := 7) (v := ?_) rfl (by kernel_rfl) (by kernel_rfl) (by kernel_rfl) (by kernel_rfl) (by kernel_rfl) (fun _ _ _ h => h) (by kernel_rfl) ?_ (by assumption) ?_
      rotate_left 1
      · (intro wS hSw; (try dsimp only at hSw); go_simp; try with_reducible rfl)
      try simp only [Act.put, List.setIfInBounds_toArray, List.set_cons_zero, List.set_cons_succ]
      refine rg_take (i := 11) (d := some 29) (l := #[true, true, true, true, true, true, true, true, true, false, true, true, false, false, false, false, false]) (fuel := 6) (v := ?_) rfl (by kernel_rfl) (by kernel_rfl) (by kernel_rfl) (by kernel_rfl) (by kernel_rfl) (fun _ _ _ h => h) (by kernel_rfl) ?_ (by assumption) ?_
      rotate_left 1
      · (intro wS hSw; (try dsimp only at hSw); go_simp; try with_reducible rfl)
      try simp only [Act.put, List.setIfInBounds_toArray, List.set_cons_zero, List.set_cons_succ]
      refine rg_take (i := 12) (d := some 30) (l := #[true, true, true, true, true, true, true, true, true, false, true, true, true, false, false, false, false]) (fuel := 5) (v := ?_) rfl (by kernel_rfl) (by kernel_rfl) (by kernel_rfl) (by kernel_rfl) (by kernel_rfl) (fun _ _ _ h => h) (by kernel_rfl) ?_ (by assumption) ?_
      rotate_left 1
      · (intro wS hSw; (try dsimp only at hSw); go_simp; try with_reducible rfl)
      try simp only [Act.put, List.setIfInBounds_toArray, List.set_cons_zero, List.set_cons_succ]
      refine rg_next (i := 9) (l := #[true, true, true, true, true, true, true, true, true, true, true, true, true, false, false, false, false]) (fuel := 4) (by kernel_rfl) rfl (by kernel_rfl) (by kernel_rfl) (fun K hK => ?_)
      go_simp
      (go_at_call 61)
      refine (hup_v (H.out.kp0 (Kp.refl _ _).drew).lns.1 2 (by decide) rfl U2.out).mono ?_
      rintro e w' ⟨rfl, rfl⟩
      first | (refine hK.out _ _ ?_ (fun hHeld => ?_)) | (go_wp2_with fail; refine hK.out _ _ ?_ (fun hHeld => ?_))
      · (try dsimp only); try exact trivial
      clear hK K
      try simp only [Act.put, List.setIfInBounds_toArray, List.set_cons_zero, List.set_cons_succ]
      refine rg_next (i := 13) (l := #[true, true, true, true, true, true, true, true, true, true, true, true, true, true, false, false, false]) (fuel := 3) (by kernel_rfl) rfl (by kernel_rfl) (by kernel_rfl) (fun K hK => ?_)
      go_simp
      (go_at_call 61)
      refine (hup_v (H.out.kp0 (Kp.refl _ _).drew).lns.1 3 (by decide) rfl U3.out).mono ?_
      rintro e w' ⟨rfl, rfl⟩
      first | (refine hK.out _ _ ?_ (fun hHeld => ?_)) | (go_wp2_with fail; refine hK.out _ _ ?_ (fun hHeld => ?_))
      · (try dsimp only); try exact trivial
      clear hK K
      try simp only [Act.put, List.setIfInBounds_toArray, List.set_cons_zero, List.set_cons_succ]
      refine rg_next (i := 14) (l := #[true, true, true, true, true, true, true, true, true, true, true, true, true, true, true, false, false]) (fuel := 2) (by kernel_rfl) rfl (by kernel_rfl) (by kernel_rfl) (fun K hK => ?_)
      go_simp
      (go_at_call 105)
      obtain ⟨cs, q1, q2⟩ := (H.out.kp0 (Kp.refl _ _).drew).irq
      refine (qstatus_iv q1 HV.out).mono ?_
      rintro e w1 ⟨rfl, b1⟩
      have H1 := Lib.hid ((H.out.kp0 (Kp.refl _ _).drew).keep b1)
      have K1 : Hid (Kp [g] w w1) := Lib.hid (((Kp.refl [g] w).drew).trans (Kp.of_below (L := [g]) b1) (by simp))
      clear q1 q2 cs b1 H
      first | (refine hK.out _ _ ?_ (fun hHeld => ?_)) | (go_wp2_with fail; refine hK.out _ _ ?_ (fun hHeld => ?_))
      · (try dsimp only); try exact trivial
      clear hK K
      try simp only [Act.put, List.setIfInBounds_toArray, List.set_cons_zero, List.set_cons_succ]
      refine rg_next (i := 15) (l := #[true, true, true, true, true, true, true, true, true, true, true, true, true, true, true, true, false]) (fuel := 1) (by kernel_rfl) rfl (by kernel_rfl) (by kernel_rfl) (fun K hK => ?_)
      go_simp
      (go_at_call 72)
      obtain ⟨l1, l2, l3⟩ := H1.out.lat
      refine (plread_any l1 l2 7 v).mono ?_
      rintro e w2 ⟨rfl, rfl⟩
      have Y := Lib.hid (l3 _ MB.out.1 MB.out.2)
      clear l1 l2 l3
      first | (refine hK.out _ _ ?_ (fun hHeld => ?_)) | (go_wp2_with fail; refine hK.out _ _ ?_ (fun hHeld => ?_))
      · (try dsimp only); try exact trivial
      clear hK K
      try simp only [Act.put, List.setIfInBounds_toArray, List.set_cons_zero, List.set_cons_succ]
      refine rg_take (i := 16) (d := some 4) (l := #[true, true, true, true, true, true, true, true, true, true, true, true, true, true, true, true, true]) (fuel := 0) (v := ?_) rfl (by kernel_rfl) (by kernel_rfl) (by kernel_rfl) (by kernel_rfl) (by kernel_rfl) (fun _ _ _ h => h) (by kernel_rfl) ?_ (by assumption) ?_
      rotate_left 1
      · (intro wS hSw; (try dsimp only at hSw); go_simp; try with_reducible rfl)
      try simp only [Act.put, List.setIfInBounds_toArray, List.set_cons_zero, List.set_cons_succ]
      refine wpAnyH_done (by kernel_rfl) ?_ _
      go_wp2_with fail
      go_ret
      exact ⟨rfl, Y.out.1, K1.out.trans Y.out.2 (by simp)⟩
    · have n3 : (r == 3) = false := by simpa using h3
      have e : x.ri d r = x.buf := by unfold Hp.ri; rw [if_neg h2, if_neg h3]
      rw [e]
      clear e h
      obtain ⟨l1, l2, l3⟩ := H.out.lat
      have L1 := Lib.hid l1
      clear l1 l2 l3
      go_enter Tryz.func74, Tryz.ntmps74
      go_wp2_with fail
      refine (pvalue_any L1.out).mono ?_
      rintro e w' ⟨rfl, rfl⟩
      go_wp2_with fail
      go_ret
      exact ⟨rfl, H.out, Kp.refl _ _⟩
end
end Go.Proofs.YtcnjekballnncaaGreat
namespace Go.Proofs.YtcnjekballnncaaGreat
open Go.RowKit
set_option linter.unusedVariables false
set_option linter.unusedSimpArgs false
set_option maxRecDepth 100000
/-- What is written at a place of a kind, at its register. -/
def Hp.wr (x : Hp) (k r u : Int) : Hp :=
  if k = 5 then { x with buf := u }
  else if k = 6 then { x with tm := x.tm.wr r u, buf := u }
  else if k = 7 then { x with pt := x.pt.wr u, buf := u }
  else if k = 8 then { x with q := x.q.wr r u, buf := u }
  else x
section
variable {w : World} {g : Nat} {d : Hd} {b : Hb} {x : Hp}
theorem hp_L {L M : List Nat} {w w' : World} (k : Kp L w w') (h : ∀ y ∈ L, y ∈ M) : Kp M w w' := k.mono h
set_option maxHeartbeats 4000000 in
theorem hread3 (h : HP w g d b x) (hl : x.lim 1000000) (off : Int) (o0 : 0 ≤ off) (o1 : off ≤ 65535) (hk : whereI (plA off) = 3) :
    Calls Tryz.prog 20 #[.pointer (some ⟨g, 0, none⟩), .int .u16 off] w (HpR (.int .u8 (peekI (d.nv - x.tv) (fun i => d.zv (x.tv + i)) 0)) g d b { x with tv := x.tv + 1 } [g, b.v, b.c, b.p] w) := by
    obtain ⟨a0, a1⟩ := plA_bd off o0
    have bu0 := h.ok.2.2.1.1
    have bu1 := h.ok.2.2.1.2
    have tc0 := h.ok.1.2.1
    have H := Lib.hid h
    have HK := Lib.hid hk
    have HL := Lib.hid hl
    clear h hk hl
    go_enter Tryz.func20, Tryz.ntmps20
    go_wp2_with fail
    refine (addr_v (a := plA off) (by decide) (by decide) o0 o1 rfl).mono ?_
    rintro e w' ⟨rfl, rfl⟩
    go_wp2_with fail
    refine (where_v a0 a1 HK.out).mono ?_
    rintro e w1 ⟨rfl, b1⟩
    have H1 := Lib.hid (H.out.keep b1)
    have K1 : Hid (Kp [] w w1) := Lib.hid (Kp.of_below b1)
    clear b1 H
    go_wp2_with fail
    obtain ⟨cs, q1, q2⟩ := H1.out.fdv
    have Q2 := Lib.hid q2
    refine (fpnext_any q1 (by omega) (by have := HL.out.1; omega)).mono ?_
    rintro e w2 ⟨rfl, y1, y2⟩
    have Y := Lib.hid (Q2.out _ _ _ (fp_shift y1) y2 (by simp))
    have K2 : Hid (Kp [g, b.v, b.c, b.p] w w2) := Lib.hid ((K1.out.mono (by simp)).trans (y2.mono (M := [g, b.v, b.c, b.p]) (by simp)) (fun y hy => .inl hy))
    clear y1 y2 q1 q2 Q2 cs H1 K1
    go_wp2_with fail
    go_ret
    exact ⟨rfl, Y.out, K2.out⟩
set_option maxHeartbeats 4000000 in
theorem hread4 (h : HP w g d b x) (hl : x.lim 1000000) (off : Int) (o0 : 0 ≤ off) (o1 : off ≤ 65535) (hk : whereI (plA off) = 4) :
    Calls Tryz.prog 20 #[.pointer (some ⟨g, 0, none⟩), .int .u16 off] w (HpR (.int .u8 (peekI (d.nc - x.tc) (fun i => d.zc (x.tc + i)) 0)) g d b { x with tc := x.tc + 1 } [g, b.v, b.c, b.p] w) := by
    obtain ⟨a0, a1⟩ := plA_bd off o0
    have bu0 := h.ok.2.2.1.1
    have bu1 := h.ok.2.2.1.2
    have tc0 := h.ok.1.2.1
    have H := Lib.hid h
    have HK := Lib.hid hk
    have HL := Lib.hid hl
    clear h hk hl
    go_enter Tryz.func20, Tryz.ntmps20
    go_wp2_with fail
    refine (addr_v (a := plA off) (by decide) (by decide) o0 o1 rfl).mono ?_
    rintro e w' ⟨rfl, rfl⟩
    go_wp2_with fail
    refine (where_v a0 a1 HK.out).mono ?_
    rintro e w1 ⟨rfl, b1⟩
    have H1 := Lib.hid (H.out.keep b1)
    have K1 : Hid (Kp [] w w1) := Lib.hid (Kp.of_below b1)
    clear b1 H
    go_wp2_with fail
    obtain ⟨cs, q1, q2⟩ := H1.out.fdc
    have Q2 := Lib.hid q2
    refine (fpnext_any q1 (by omega) (by have := HL.out.2.1; omega)).mono ?_
    rintro e w2 ⟨rfl, y1, y2⟩
    have Y := Lib.hid (Q2.out _ _ _ (fp_shift y1) y2 (by simp))
    have K2 : Hid (Kp [g, b.v, b.c, b.p] w w2) := Lib.hid ((K1.out.mono (by simp)).trans (y2.mono (M := [g, b.v, b.c, b.p]) (by simp)) (fun y hy => .inl hy))
    clear y1 y2 q1 q2 Q2 cs H1 K1
    go_wp2_with fail
    go_ret
    exact ⟨rfl, Y.out, K2.out⟩
set_option maxHeartbeats 4000000 in
theorem hread5 (h : HP w g d b x) (hl : x.lim 1000000) (off : Int) (o0 : 0 ≤ off) (o1 : off ≤ 65535) (hk : whereI (plA off) = 5) :
    Calls Tryz.prog 20 #[.pointer (some ⟨g, 0, none⟩), .int .u16 off] w (HpR (.int .u8 x.buf) g d b x [g, b.v, b.c, b.p] w) := by
    obtain ⟨a0, a1⟩ := plA_bd off o0
    have bu0 := h.ok.2.2.1.1
    have bu1 := h.ok.2.2.1.2
    have tc0 := h.ok.1.2.1
    have H := Lib.hid h
    have HK := Lib.hid hk
    have HL := Lib.hid hl
    clear h hk hl
    go_enter Tryz.func20, Tryz.ntmps20
    go_wp2_with fail
    refine (addr_v (a := plA off) (by decide) (by decide) o0 o1 rfl).mono ?_
    rintro e w' ⟨rfl, rfl⟩
    go_wp2_with fail
    refine (where_v a0 a1 HK.out).mono ?_
    rintro e w1 ⟨rfl, b1⟩
    have H1 := Lib.hid (H.out.keep b1)
    have K1 : Hid (Kp [] w w1) := Lib.hid (Kp.of_below b1)
    clear b1 H
    go_wp2_with fail
    refine (pvalue_any H1.out.lat.1).mono ?_
    rintro e w' ⟨rfl, rfl⟩
    go_wp2_with fail
    go_ret
    exact ⟨rfl, H1.out, K1.out.mono (by simp)⟩
set_option maxHeartbeats 4000000 in
theorem hread6 (h : HP w g d b x) (hl : x.lim 1000000) (off : Int) (o0 : 0 ≤ off) (o1 : off ≤ 65535) (hk : whereI (plA off) = 6) :
    Calls Tryz.prog 20 #[.pointer (some ⟨g, 0, none⟩), .int .u16 off] w (HpR (.int .u8 (mixI x.buf 127 x.tm.c)) g d b { x with buf := mixI x.buf 127 x.tm.c } [g, b.v, b.c, b.p] w) := by
    obtain ⟨a0, a1⟩ := plA_bd off o0
    have bu0 := h.ok.2.2.1.1
    have bu1 := h.ok.2.2.1.2
    have tc0 := h.ok.1.2.1
    have H := Lib.hid h
    have HK := Lib.hid hk
    have HL := Lib.hid hl
    clear h hk hl
    go_enter Tryz.func20, Tryz.ntmps20
    go_wp2_with fail
    refine (addr_v (a := plA off) (by decide) (by decide) o0 o1 rfl).mono ?_
    rintro e w' ⟨rfl, rfl⟩
    go_wp2_with fail
    refine (where_v a0 a1 HK.out).mono ?_
    rintro e w1 ⟨rfl, b1⟩
    have H1 := Lib.hid (H.out.keep b1)
    have K1 : Hid (Kp [] w w1) := Lib.hid (Kp.of_below b1)
    clear b1 H
    go_wp2_with fail
    have mb := mix_byte x.buf 127 x.tm.c bu0 bu1 (by decide) (by decide) (by omega) (by omega)
    have MB := Lib.hid mb
    clear mb
    refine rg_begin (S := fun w' => True) 9 #[false, false, false, false, false, false, false, false, false] (by kernel_rfl) (by kernel_rfl) (by kernel_rfl) ?_ (fun hHeld => ?_)
    · exact trivial
    refine rg_take (i := 0) (d := some 32) (l := #[true, false, false, false, false, false, false, false, false]) (fuel := 8) (v := ?_) rfl (by kernel_rfl) (by kernel_rfl) (by kernel_rfl) (by kernel_rfl) (by kernel_rfl) (fun _ _ _ h => h) (by kernel_rfl) ?_ (by assumption) ?_
    rotate_left 1
    · (intro wS hSw; (try dsimp only at hSw); go_simp; try with_reducible rfl)
    try simp only [Act.put, List.setIfInBounds_toArray, List.set_cons_zero, List.set_cons_succ]
    refine rg_take (i := 1) (d := some 33) (l := #[true, true, false, false, false, false, false, false, false]) (fuel := 7) (v := ?_) rfl (by kernel_rfl) (by kernel_rfl) (by kernel_rfl) (by kernel_rfl) (by kernel_rfl) (fun _ _ _ h => h) (by kernel_rfl) ?_ (by assumption) ?_
    rotate_left 1
    · (intro wS hSw; (try dsimp only at hSw); go_simp; try with_reducible rfl)
    try simp only [Act.put, List.setIfInBounds_toArray, List.set_cons_zero, List.set_cons_succ]
    refine rg_take (i := 2) (d := some 34) (l := #[true, true, true, false, false, false, false, false, false]) (fuel := 6) (v := ?_) rfl (by kernel_rfl) (by kernel_rfl) (by kernel_rfl) (by kernel_rfl) (by kernel_rfl) (fun _ _ _ h => h) (by kernel_rfl) ?_ (by assumption) ?_
    rotate_left 1
    · (intro wS hSw; (try dsimp only at hSw); go_simp; try with_reducible rfl)
    try simp only [Act.put, List.setIfInBounds_toArray, List.set_cons_zero, List.set_cons_succ]
    refine rg_take (i := 3) (d := some 35) (l := #[true, true, true, true, false, false, false, false, false]) (fuel := 5) (v := ?_) rfl (by kernel_rfl) (by kernel_rfl) (by kernel_rfl) (by kernel_rfl) (by kernel_rfl) (fun _ _ _ h => h) (by kernel_rfl) ?_ (by assumption) ?_
    rotate_left 1
    · (intro wS hSw; (try dsimp only at hSw); go_simp; try with_reducible rfl)
    try simp only [Act.put, List.setIfInBounds_toArray, List.set_cons_zero, List.set_cons_succ]
    refine rg_take (i := 4) (d := some 36) (l := #[true, true, true, true, true, false, false, false, false]) (fuel := 4) (v := ?_) rfl (by kernel_rfl) (by kernel_rfl) (by kernel_rfl) (by kernel_rfl) (by kernel_rfl) (fun _ _ _ h => h) (by kernel_rfl) ?_ (by assumption) ?_
    rotate_left 1
    · (intro wS hSw; (try dsimp only at hSw); go_simp; try with_reducible rfl)
    try simp only [Act.put, List.setIfInBounds_toArray, List.set_cons_zero, List.set_cons_succ]
    refine rg_take (i := 5) (d := some 37) (l := #[true, true, true, true, true, true, false, false, false]) (fuel := 3) (v := ?_) rfl (by kernel_rfl) (by kernel_rfl) (by kernel_rfl) (by kernel_rfl) (by kernel_rfl) (fun _ _ _ h => h) (by kernel_rfl) ?_ (by assumption) ?_
    rotate_left 1
    · (intro wS hSw; (try dsimp only at hSw); go_simp; try with_reducible rfl)
    try simp only [Act.put, List.setIfInBounds_toArray, List.set_cons_zero, List.set_cons_succ]
    refine rg_next (i := 6) (l := #[true, true, true, true, true, true, true, false, false]) (fuel := 2) (by kernel_rfl) rfl (by kernel_rfl) (by kernel_rfl) (fun K hK => ?_)
    go_simp
    (go_at_call 48)
    obtain ⟨cs, q1, q2⟩ := (H1.out.kp0 (Kp.refl _ _).drew).tmr
    refine (tcounter_any q1).mono ?_
    rintro e w' ⟨rfl, rfl⟩
    clear q1 q2 cs
    first | (refine hK.out _ _ ?_ (fun hHeld => ?_)) | (go_wp2_with fail; refine hK.out _ _ ?_ (fun hHeld => ?_))
    · (try dsimp only); try exact trivial
    clear hK K
    try simp only [Act.put, List.setIfInBounds_toArray, List.set_cons_zero, List.set_cons_succ]
    refine rg_next (i := 7) (l := #[true, true, true, true, true, true, true, true, false]) (fuel := 1) (by kernel_rfl) rfl (by kernel_rfl) (by kernel_rfl) (fun K hK => ?_)
    go_simp
    (go_at_call 72)
    obtain ⟨l1, l2, l3⟩ := (H1.out.kp0 (Kp.refl _ _).drew).lat
    refine (plread_any l1 l2 127 x.tm.c).mono ?_
    rintro e w2 ⟨rfl, rfl⟩
    have Y := Lib.hid (l3 _ MB.out.1 MB.out.2)
    clear l1 l2 l3
    first | (refine hK.out _ _ ?_ (fun hHeld => ?_)) | (go_wp2_with fail; refine hK.out _ _ ?_ (fun hHeld => ?_))
    · (try dsimp only); try exact trivial
    clear hK K
    try simp only [Act.put, List.setIfInBounds_toArray, List.set_cons_zero, List.set_cons_succ]
    refine rg_take (i := 8) (d := some 4) (l := #[true, true, true, true, true, true, true, true, true]) (fuel := 0) (v := ?_) rfl (by kernel_rfl) (by kernel_rfl) (by kernel_rfl) (by kernel_rfl) (by kernel_rfl) (fun _ _ _ h => h) (by kernel_rfl) ?_ (by assumption) ?_
    rotate_left 1
    · (intro wS hSw; (try dsimp only at hSw); go_simp; try with_reducible rfl)
    try simp only [Act.put, List.setIfInBounds_toArray, List.set_cons_zero, List.set_cons_succ]
    refine wpAnyH_done (by kernel_rfl) ?_ _
    go_wp2_with fail
    go_ret
    exact ⟨rfl, Y.out.1, (K1.out.mono (M := [g, b.v, b.c, b.p]) (by simp)).drew.trans (Y.out.2.mono (M := [g, b.v, b.c, b.p]) (by simp)) (fun y hy => .inl hy)⟩
set_option maxHeartbeats 4000000 in
theorem hread7 (h : HP w g d b x) (hl : x.lim 1000000) (off : Int) (o0 : 0 ≤ off) (o1 : off ≤ 65535) (hk : whereI (plA off) = 7) :
    Calls Tryz.prog 20 #[.pointer (some ⟨g, 0, none⟩), .int .u16 off] w (HpR (.int .u8 (mixI x.buf 255 (x.pt.val (peekI (d.np - x.tp) (fun i => d.zp (x.tp + i)) 0)))) g d b { x with buf := mixI x.buf 255 (x.pt.val (peekI (d.np - x.tp) (fun i => d.zp (x.tp + i)) 0)), tp := if x.pt.takes then x.tp + 1 else x.tp } [g, b.v, b.c, b.p] w) := by
    obtain ⟨a0, a1⟩ := plA_bd off o0
    have bu0 := h.ok.2.2.1.1
    have bu1 := h.ok.2.2.1.2
    have tc0 := h.ok.1.2.1
    have H := Lib.hid h
    have HK := Lib.hid hk
    have HL := Lib.hid hl
    clear h hk hl
    have pb := H.out.pbyte
    obtain ⟨v, hv⟩ : ∃ v, x.pt.val (peekI (d.np - x.tp) (fun i => d.zp (x.tp + i)) 0) = v := ⟨_, rfl⟩
    obtain ⟨tq, htq⟩ : ∃ tq, (if x.pt.takes then x.tp + 1 else x.tp) = tq := ⟨_, rfl⟩
    rw [hv, htq]
    have vb := Pt.val_byte x.pt _ pb.1 pb.2
    rw [hv] at vb
    have mb := mix_byte x.buf 255 v bu0 bu1 (by decide) (by decide) vb.1 vb.2
    have MB := Lib.hid mb
    have HV := Lib.hid hv
    have HT := Lib.hid htq
    clear mb vb pb hv htq
    go_enter Tryz.func20, Tryz.ntmps20
    go_wp2_with fail
    refine (addr_v (a := plA off) (by decide) (by decide) o0 o1 rfl).mono ?_
    rintro e w' ⟨rfl, rfl⟩
    go_wp2_with fail
    refine (where_v a0 a1 HK.out).mono ?_
    rintro e w1 ⟨rfl, b1⟩
    have H1 := Lib.hid (H.out.keep b1)
    have K1 : Hid (Kp [] w w1) := Lib.hid (Kp.of_below b1)
    clear b1 H
    go_wp2_with fail
    refine rg_begin (S := fun w' => True) 9 #[false, false, false, false, false, false, false, false, false] (by kernel_rfl) (by kernel_rfl) (by kernel_rfl) ?_ (fun hHeld => ?_)
    · exact trivial
    refine rg_take (i := 0) (d := some 42) (l := #[true, false, false, false, false, false, false, false, false]) (fuel := 8) (v := ?_) rfl (by kernel_rfl) (by kernel_rfl) (by kernel_rfl) (by kernel_rfl) (by kernel_rfl) (fun _ _ _ h => h) (by kernel_rfl) ?_ (by assumption) ?_
    rotate_left 1
    · (intro wS hSw; (try dsimp only at hSw); go_simp; try with_reducible rfl)
    try simp only [Act.put, List.setIfInBounds_toArray, List.set_cons_zero, List.set_cons_succ]
    refine rg_take (i := 1) (d := some 43) (l := #[true, true, false, false, false, false, false, false, false]) (fuel := 7) (v := ?_) rfl (by kernel_rfl) (by kernel_rfl) (by kernel_rfl) (by kernel_rfl) (by kernel_rfl) (fun _ _ _ h => h) (by kernel_rfl) ?_ (by assumption) ?_
    rotate_left 1
    · (intro wS hSw; (try dsimp only at hSw); go_simp; try with_reducible rfl)
    try simp only [Act.put, List.setIfInBounds_toArray, List.set_cons_zero, List.set_cons_succ]
    refine rg_take (i := 2) (d := some 44) (l := #[true, true, true, false, false, false, false, false, false]) (fuel := 6) (v := ?_) rfl (by kernel_rfl) (by kernel_rfl) (by kernel_rfl) (by kernel_rfl) (by kernel_rfl) (fun _ _ _ h => h) (by kernel_rfl) ?_ (by assumption) ?_
    rotate_left 1
    · (intro wS hSw; (try dsimp only at hSw); go_simp; try with_reducible rfl)
    try simp only [Act.put, List.setIfInBounds_toArray, List.set_cons_zero, List.set_cons_succ]
    refine rg_take (i := 3) (d := some 45) (l := #[true, true, true, true, false, false, false, false, false]) (fuel := 5) (v := ?_) rfl (by kernel_rfl) (by kernel_rfl) (by kernel_rfl) (by kernel_rfl) (by kernel_rfl) (fun _ _ _ h => h) (by kernel_rfl) ?_ (by assumption) ?_
    rotate_left 1
    · (intro wS hSw; (try dsimp only at hSw); go_simp; try with_reducible rfl)
    try simp only [Act.put, List.setIfInBounds_toArray, List.set_cons_zero, List.set_cons_succ]
    refine rg_take (i := 4) (d := some 46) (l := #[true, true, true, true, true, false, false, false, false]) (fuel := 4) (v := ?_) rfl (by kernel_rfl) (by kernel_rfl) (by kernel_rfl) (by kernel_rfl) (by kernel_rfl) (fun _ _ _ h => h) (by kernel_rfl) ?_ (by assumption) ?_
    rotate_left 1
    · (intro wS hSw; (try dsimp only at hSw); go_simp; try with_reducible rfl)
    try simp only [Act.put, List.setIfInBounds_toArray, List.set_cons_zero, List.set_cons_succ]
    refine rg_take (i := 5) (d := some 47) (l := #[true, true, true, true, true, true, false, false, false]) (fuel := 3) (v := ?_) rfl (by kernel_rfl) (by kernel_rfl) (by kernel_rfl) (by kernel_rfl) (by kernel_rfl) (fun _ _ _ h => h) (by kernel_rfl) ?_ (by assumption) ?_
    rotate_left 1
    · (intro wS hSw; (try dsimp only at hSw); go_simp; try with_reducible rfl)
    try simp only [Act.put, List.setIfInBounds_toArray, List.set_cons_zero, List.set_cons_succ]
    refine rg_next (i := 6) (l := #[true, true, true, true, true, true, true, false, false]) (fuel := 2) (by kernel_rfl) rfl (by kernel_rfl) (by kernel_rfl) (fun K hK => ?_)
    go_simp
    (go_at_call 73)
    obtain ⟨cs, q1, q2⟩ := (H1.out.kp0 (Kp.refl _ _).drew).prt
    refine (pread_any q1 (by have := HL.out.2.2; omega)).mono ?_
    rw [HV.out, HT.out]
    rintro e w2 ⟨rfl, y1, y2⟩
    have H2 := Lib.hid (q2 _ _ _ _ y1 y2 (by simp))
    have K2 : Hid (Kp [g, b.v, b.c, b.p] w w2) := Lib.hid ((K1.out.drew.mono (by simp)).trans (y2.mono (M := [g, b.v, b.c, b.p]) (by simp)) (fun y hy => .inl hy))
    clear q1 q2 y1 y2 cs H1 K1
    first | (refine hK.out _ _ ?_ (fun hHeld => ?_)) | (go_wp2_with fail; refine hK.out _ _ ?_ (fun hHeld => ?_))
    · (try dsimp only); try exact trivial
    clear hK K
    try simp only [Act.put, List.setIfInBounds_toArray, List.set_cons_zero, List.set_cons_succ]
    refine rg_next (i := 7) (l := #[true, true, true, true, true, true, true, true, false]) (fuel := 1) (by kernel_rfl) rfl (by kernel_rfl) (by kernel_rfl) (fun K hK => ?_)
    go_simp
    (go_at_call 72)
    obtain ⟨l1, l2, l3⟩ := H2.out.lat
    refine (plread_any l1 l2 255 v).mono ?_
    rintro e w3 ⟨rfl, rfl⟩
    have Y := Lib.hid (l3 _ MB.out.1 MB.out.2)
    clear l1 l2 l3
    first | (refine hK.out _ _ ?_ (fun hHeld => ?_)) | (go_wp2_with fail; refine hK.out _ _ ?_ (fun hHeld => ?_))
    · (try dsimp only); try exact trivial
    clear hK K
    try simp only [Act.put, List.setIfInBounds_toArray, List.set_cons_zero, List.set_cons_succ]
    refine rg_take (i := 8) (d := some 4) (l := #[true, true, true, true, true, true, true, true, true]) (fuel := 0) (v := ?_) rfl (by kernel_rfl) (by kernel_rfl) (by kernel_rfl) (by kernel_rfl) (by kernel_rfl) (fun _ _ _ h => h) (by kernel_rfl) ?_ (by assumption) ?_
    rotate_left 1
    · (intro wS hSw; (try dsimp only at hSw); go_simp; try with_reducible rfl)
    try simp only [Act.put, List.setIfInBounds_toArray, List.set_cons_zero, List.set_cons_succ]
    refine wpAnyH_done (by kernel_rfl) ?_ _
    go_wp2_with fail
    go_ret
    refine ⟨rfl, ?_, K2.out.trans (Y.out.2.mono (M := [g, b.v, b.c, b.p]) (by simp)) (fun y hy => .inl hy)⟩
    exact Y.out.1
set_option maxHeartbeats 4000000 in
theorem hread8 (h : HP w g d b x) (hl : x.lim 1000000) (off : Int) (o0 : 0 ≤ off) (o1 : off ≤ 65535) (hk : whereI (plA off) = 8) :
    Calls Tryz.prog 20 #[.pointer (some ⟨g, 0, none⟩), .int .u16 off] w (HpR (.int .u8 (x.ri d (regI (plA off)))) g d b { x with buf := x.ri d (regI (plA off)) } [g, b.v, b.c, b.p] w) := by
    obtain ⟨a0, a1⟩ := plA_bd off o0
    have bu0 := h.ok.2.2.1.1
    have bu1 := h.ok.2.2.1.2
    have tc0 := h.ok.1.2.1
    have H := Lib.hid h
    have HK := Lib.hid hk
    have HL := Lib.hid hl
    clear h hk hl
    go_enter Tryz.func20, Tryz.ntmps20
    go_wp2_with fail
    refine (addr_v (a := plA off) (by decide) (by decide) o0 o1 rfl).mono ?_
    rintro e w' ⟨rfl, rfl⟩
    go_wp2_with fail
    refine (where_v a0 a1 HK.out).mono ?_
    rintro e w1 ⟨rfl, b1⟩
    have H1 := Lib.hid (H.out.keep b1)
    have K1 : Hid (Kp [] w w1) := Lib.hid (Kp.of_below b1)
    clear b1 H
    go_wp2_with fail
    refine (reg_v a0 a1 rfl).mono ?_
    rintro e w2 ⟨rfl, b2⟩
    have H2 := Lib.hid (H1.out.keep b2)
    have K2 : Hid (Kp [g] w w2) := Lib.hid ((K1.out.mono (by simp)).trans (Kp.of_below (L := [g]) b2) (by simp))
    clear b2 H1 K1
    go_wp2_with fail
    refine (hreadirq_any H2.out (regI (plA off))).mono ?_
    rintro e w3 ⟨rfl, y1, y2⟩
    have Y := Lib.hid y1
    have K3 := Lib.hid (K2.out.trans y2 (by simp))
    clear y1 y2
    go_wp2_with fail
    go_ret
    exact ⟨rfl, Y.out, K3.out.mono (by simp)⟩
set_option maxHeartbeats 4000000 in
theorem hread0 (h : HP w g d b x) (off k : Int) (o0 : 0 ≤ off) (o1 : off ≤ 65535) (hk : whereI (plA off) = k) (hn : k < 3 ∨ 8 < k) :
    Calls Tryz.prog 20 #[.pointer (some ⟨g, 0, none⟩), .int .u16 off] w (HpR (.int .u8 255) g d b x [g, b.v, b.c, b.p] w) := by
    obtain ⟨a0, a1⟩ := plA_bd off o0
    have n3 : (k == 3) = false := by simp; omega
    have n4 : (k == 4) = false := by simp; omega
    have n5 : (k == 5) = false := by simp; omega
    have n6 : (k == 6) = false := by simp; omega
    have n7 : (k == 7) = false := by simp; omega
    have n8 : (k == 8) = false := by simp; omega
    have H := Lib.hid h
    have HK := Lib.hid hk
    clear h hk hn
    go_enter Tryz.func20, Tryz.ntmps20
    go_wp2_with fail
    refine (addr_v (a := plA off) (by decide) (by decide) o0 o1 rfl).mono ?_
    rintro e w' ⟨rfl, rfl⟩
    go_wp2_with fail
    refine (where_v a0 a1 HK.out).mono ?_
    rintro e w1 ⟨rfl, b1⟩
    have H1 := Lib.hid (H.out.keep b1)
    have K1 : Hid (Kp [] w w1) := Lib.hid (Kp.of_below b1)
    clear b1 H
    go_wp2_with fail
    go_ret
    exact ⟨rfl, H1.out, K1.out.mono (by simp)⟩
theorem hread_any (h : HP w g d b x) (hl : x.lim 1000000) (off : Int) (o0 : 0 ≤ off) (o1 : off ≤ 65535) :
    Calls Tryz.prog 20 #[.pointer (some ⟨g, 0, none⟩), .int .u16 off] w (HpR (.int .u8 (x.rv d (whereI (plA off)) (regI (plA off)))) g d b (x.rd d (whereI (plA off)) (regI (plA off))) [g, b.v, b.c, b.p] w) := by
  obtain ⟨k, hk⟩ : ∃ k, whereI (plA off) = k := ⟨_, rfl⟩
  by_cases h3 : k = 3
  · subst h3; rw [hk]; exact hread3 h hl off o0 o1 hk
  by_cases h4 : k = 4
  · subst h4; rw [hk]; exact hread4 h hl off o0 o1 hk
  by_cases h5 : k = 5
  · subst h5; rw [hk]; exact hread5 h hl off o0 o1 hk
  by_cases h6 : k = 6
  · subst h6; rw [hk]; exact hread6 h hl off o0 o1 hk
  by_cases h7 : k = 7
  · subst h7; rw [hk]; exact hread7 h hl off o0 o1 hk
  by_cases h8 : k = 8
  · subst h8; rw [hk]; exact hread8 h hl off o0 o1 hk
  have e1 : x.rv d k (regI (plA off)) = 255 := by unfold Hp.rv; rw [if_neg h3, if_neg h4, if_neg h5, if_neg h6, if_neg h7, if_neg h8]
  have e2 : x.rd d k (regI (plA off)) = x := by unfold Hp.rd; rw [if_neg h3, if_neg h4, if_neg (by omega), if_neg h7]
  rw [hk, e1, e2]
  exact hread0 h off k o0 o1 hk (by omega)
set_option maxHeartbeats 4000000 in
theorem hwrite5 (h : HP w g d b x) (hl : x.lim 1000000) (off : Int) (o0 : 0 ≤ off) (o1 : off ≤ 65535) (u : Int) (u0 : 0 ≤ u) (u1 : u ≤ 255) (hk : whereI (plA off) = 5) :
    Calls Tryz.prog 19 #[.pointer (some ⟨g, 0, none⟩), .int .u16 off, .int .u8 u] w (HpR (.tuple #[]) g d b { x with buf := u } [g, b.v, b.c, b.p] w) := by
    obtain ⟨a0, a1⟩ := plA_bd off o0
    have bu0 := h.ok.2.2.1.1
    have bu1 := h.ok.2.2.1.2
    have tc0 := h.ok.1.2.1
    have H := Lib.hid h
    have HK := Lib.hid hk
    have HL := Lib.hid hl
    clear h hk hl
    go_enter Tryz.func19, Tryz.ntmps19
    go_wp2_with fail
    refine (addr_v (a := plA off) (by decide) (by decide) o0 o1 rfl).mono ?_
    rintro e w' ⟨rfl, rfl⟩
    go_wp2_with fail
    refine (where_v a0 a1 HK.out).mono ?_
    rintro e w1 ⟨rfl, b1⟩
    have H1 := Lib.hid (H.out.keep b1)
    have K1 : Hid (Kp [] w w1) := Lib.hid (Kp.of_below b1)
    clear b1 H
    go_wp2_with fail
    obtain ⟨l1, l2, l3⟩ := H1.out.lat
    refine (plwrite_any l1 l2 u).mono ?_
    rintro e w3 ⟨rfl, rfl⟩
    have L3 := Lib.hid (l3 u u0 u1)
    clear l1 l2 l3
    go_wp2_with fail
    first | go_end0 | refine bodyPost_ret (results_none rfl _ _ _) rfl ?_
    exact ⟨rfl, L3.out.1, (K1.out.mono (M := [g, b.v, b.c, b.p]) (by simp)).trans (L3.out.2.mono (M := [g, b.v, b.c, b.p]) (by simp)) (fun y hy => .inl hy)⟩
set_option maxHeartbeats 4000000 in
theorem hwrite6 (h : HP w g d b x) (hl : x.lim 1000000) (off : Int) (o0 : 0 ≤ off) (o1 : off ≤ 65535) (u : Int) (u0 : 0 ≤ u) (u1 : u ≤ 255) (hk : whereI (plA off) = 6) :
    Calls Tryz.prog 19 #[.pointer (some ⟨g, 0, none⟩), .int .u16 off, .int .u8 u] w (HpR (.tuple #[]) g d b { x with tm := x.tm.wr (regI (plA off)) u, buf := u } [g, b.v, b.c, b.p] w) := by
    obtain ⟨a0, a1⟩ := plA_bd off o0
    have bu0 := h.ok.2.2.1.1
    have bu1 := h.ok.2.2.1.2
    have tc0 := h.ok.1.2.1
    have H := Lib.hid h
    have HK := Lib.hid hk
    have HL := Lib.hid hl
    clear h hk hl
    go_enter Tryz.func19, Tryz.ntmps19
    go_wp2_with fail
    refine (addr_v (a := plA off) (by decide) (by decide) o0 o1 rfl).mono ?_
    rintro e w' ⟨rfl, rfl⟩
    go_wp2_with fail
    refine (where_v a0 a1 HK.out).mono ?_
    rintro e w1 ⟨rfl, b1⟩
    have H1 := Lib.hid (H.out.keep b1)
    have K1 : Hid (Kp [] w w1) := Lib.hid (Kp.of_below b1)
    clear b1 H
    go_wp2_with fail
    refine rg_begin (S := fun w' => True) 7 #[false, false, false, false, false, false, false] (by kernel_rfl) (by kernel_rfl) (by kernel_rfl) ?_ (fun hHeld => ?_)
    · exact trivial
    refine rg_take (i := 0) (d := some 17) (l := #[true, false, false, false, false, false, false]) (fuel := 6) (v := ?_) rfl (by kernel_rfl) (by kernel_rfl) (by kernel_rfl) (by kernel_rfl) (by kernel_rfl) (fun _ _ _ h => h) (by kernel_rfl) ?_ (by assumption) ?_
    rotate_left 1
    · (intro wS hSw; (try dsimp only at hSw); go_simp; try with_reducible rfl)
    try simp only [Act.put, List.setIfInBounds_toArray, List.set_cons_zero, List.set_cons_succ]
    refine rg_take (i := 1) (d := some 18) (l := #[true, true, false, false, false, false, false]) (fuel := 5) (v := ?_) rfl (by kernel_rfl) (by kernel_rfl) (by kernel_rfl) (by kernel_rfl) (by kernel_rfl) (fun _ _ _ h => h) (by kernel_rfl) ?_ (by assumption) ?_
    rotate_left 1
    · (intro wS hSw; (try dsimp only at hSw); go_simp; try with_reducible rfl)
    try simp only [Act.put, List.setIfInBounds_toArray, List.set_cons_zero, List.set_cons_succ]
    refine rg_take (i := 2) (d := some 19) (l := #[true, true, true, false, false, false, false]) (fuel := 4) (v := ?_) rfl (by kernel_rfl) (by kernel_rfl) (by kernel_rfl) (by kernel_rfl) (by kernel_rfl) (fun _ _ _ h => h) (by kernel_rfl) ?_ (by assumption) ?_
    rotate_left 1
    · (intro wS hSw; (try dsimp only at hSw); go_simp; try with_reducible rfl)
    try simp only [Act.put, List.setIfInBounds_toArray, List.set_cons_zero, List.set_cons_succ]
    refine rg_take (i := 3) (d := some 20) (l := #[true, true, true, true, false, false, false]) (fuel := 3) (v := ?_) rfl (by kernel_rfl) (by kernel_rfl) (by kernel_rfl) (by kernel_rfl) (by kernel_rfl) (fun _ _ _ h => h) (by kernel_rfl) ?_ (by assumption) ?_
    rotate_left 1
    · (intro wS hSw; (try dsimp only at hSw); go_simp; try with_reducible rfl)
    try simp only [Act.put, List.setIfInBounds_toArray, List.set_cons_zero, List.set_cons_succ]
    refine rg_take (i := 5) (d := some 22) (l := #[true, true, true, true, false, true, false]) (fuel := 2) (v := ?_) rfl (by kernel_rfl) (by kernel_rfl) (by kernel_rfl) (by kernel_rfl) (by kernel_rfl) (fun _ _ _ h => h) (by kernel_rfl) ?_ (by assumption) ?_
    rotate_left 1
    · (intro wS hSw; (try dsimp only at hSw); go_simp; try with_reducible rfl)
    try simp only [Act.put, List.setIfInBounds_toArray, List.set_cons_zero, List.set_cons_succ]
    refine rg_next (i := 4) (l := #[true, true, true, true, true, true, false]) (fuel := 1) (by kernel_rfl) rfl (by kernel_rfl) (by kernel_rfl) (fun K hK => ?_)
    go_simp
    (go_at_call 67)
    refine (reg_v a0 a1 rfl).mono ?_
    rintro e w2 ⟨rfl, b2⟩
    have HH := Lib.hid ((H1.out.kp0 (Kp.refl _ _).drew).keep b2)
    have KK : Hid (Kp [] w w2) := Lib.hid (K1.out.drew.trans (Kp.of_below (L := []) b2) (by simp))
    clear b2 H1 K1
    first | (refine hK.out _ _ ?_ (fun hHeld => ?_)) | (go_wp2_with fail; refine hK.out _ _ ?_ (fun hHeld => ?_))
    · (try dsimp only); try exact trivial
    clear hK K
    try simp only [Act.put, List.setIfInBounds_toArray, List.set_cons_zero, List.set_cons_succ]
    refine rg_next (i := 6) (l := #[true, true, true, true, true, true, true]) (fuel := 0) (by kernel_rfl) rfl (by kernel_rfl) (by kernel_rfl) (fun K hK => ?_)
    go_simp
    (go_at_call 66)
    obtain ⟨cs, q1, q2⟩ := HH.out.tmr
    refine (twrite_any q1 (regI (plA off)) u u0 u1).mono ?_
    rintro e w3 ⟨rfl, y1, y2⟩
    have H2 := Lib.hid (q2 _ _ y1 y2)
    have K2 : Hid (Kp [g, b.v, b.c, b.p] w w3) := Lib.hid ((KK.out.mono (by simp)).trans (y2.mono (M := [g, b.v, b.c, b.p]) (by simp)) (fun y hy => .inl hy))
    clear q1 q2 y1 y2 cs HH KK
    first | (refine hK.out _ _ ?_ (fun hHeld => ?_)) | (go_wp2_with fail; refine hK.out _ _ ?_ (fun hHeld => ?_))
    · (try dsimp only); try exact trivial
    clear hK K
    try simp only [Act.put, List.setIfInBounds_toArray, List.set_cons_zero, List.set_cons_succ]
    refine wpAnyH_done (by kernel_rfl) ?_ _
    obtain ⟨l1, l2, l3⟩ := H2.out.lat
    have L1 := Lib.hid l1
    have L2 := Lib.hid l2
    have L3 := Lib.hid (l3 u u0 u1)
    clear l1 l2 l3
    go_wp2_with fail
    refine (plwrite_any L1.out L2.out u).mono ?_
    rintro e w3 ⟨rfl, rfl⟩
    go_wp2_with fail
    first | go_end0 | refine bodyPost_ret (results_none rfl _ _ _) rfl ?_
    exact ⟨rfl, L3.out.1, K2.out.trans (L3.out.2.mono (M := [g, b.v, b.c, b.p]) (by simp)) (fun y hy => .inl hy)⟩
set_option maxHeartbeats 4000000 in
theorem hwrite7 (h : HP w g d b x) (hl : x.lim 1000000) (off : Int) (o0 : 0 ≤ off) (o1 : off ≤ 65535) (u : Int) (u0 : 0 ≤ u) (u1 : u ≤ 255) (hk : whereI (plA off) = 7) :
    Calls Tryz.prog 19 #[.pointer (some ⟨g, 0, none⟩), .int .u16 off, .int .u8 u] w (HpR (.tuple #[]) g d b { x with pt := x.pt.wr u, buf := u } [g, b.v, b.c, b.p] w) := by
    obtain ⟨a0, a1⟩ := plA_bd off o0
    have bu0 := h.ok.2.2.1.1
    have bu1 := h.ok.2.2.1.2
    have tc0 := h.ok.1.2.1
    have H := Lib.hid h
    have HK := Lib.hid hk
    have HL := Lib.hid hl
    clear h hk hl
    go_enter Tryz.func19, Tryz.ntmps19
    go_wp2_with fail
    refine (addr_v (a := plA off) (by decide) (by decide) o0 o1 rfl).mono ?_
    rintro e w' ⟨rfl, rfl⟩
    go_wp2_with fail
    refine (where_v a0 a1 HK.out).mono ?_
    rintro e w1 ⟨rfl, b1⟩
    have H1 := Lib.hid (H.out.keep b1)
    have K1 : Hid (Kp [] w w1) := Lib.hid (Kp.of_below b1)
    clear b1 H
    go_wp2_with fail
    obtain ⟨cs, q1, q2⟩ := H1.out.prt
    refine (pwrite_any q1 u u0 u1).mono ?_
    rintro e w2 ⟨rfl, y1, y2⟩
    have H2 := Lib.hid (q2 _ _ _ _ y1 y2 (by simp))
    have K2 : Hid (Kp [g, b.v, b.c, b.p] w w2) := Lib.hid ((K1.out.mono (by simp)).trans (y2.mono (M := [g, b.v, b.c, b.p]) (by simp)) (fun y hy => .inl hy))
    clear q1 q2 y1 y2 cs H1 K1
    obtain ⟨l1, l2, l3⟩ := H2.out.lat
    have L1 := Lib.hid l1
    have L2 := Lib.hid l2
    have L3 := Lib.hid (l3 u u0 u1)
    clear l1 l2 l3
    go_wp2_with fail
    refine (plwrite_any L1.out L2.out u).mono ?_
    rintro e w3 ⟨rfl, rfl⟩
    go_wp2_with fail
    first | go_end0 | refine bodyPost_ret (results_none rfl _ _ _) rfl ?_
    exact ⟨rfl, L3.out.1, K2.out.trans (L3.out.2.mono (M := [g, b.v, b.c, b.p]) (by simp)) (fun y hy => .inl hy)⟩
set_option maxHeartbeats 4000000 in
theorem hwrite8 (h : HP w g d b x) (hl : x.lim 1000000) (off : Int) (o0 : 0 ≤ off) (o1 : off ≤ 65535) (u : Int) (u0 : 0 ≤ u) (u1 : u ≤ 255) (hk : whereI (plA off) = 8) :
    Calls Tryz.prog 19 #[.pointer (some ⟨g, 0, none⟩), .int .u16 off, .int .u8 u] w (HpR (.tuple #[]) g d b { x with q := x.q.wr (regI (plA off)) u, buf := u } [g, b.v, b.c, b.p] w) := by
    obtain ⟨a0, a1⟩ := plA_bd off o0
    have bu0 := h.ok.2.2.1.1
    have bu1 := h.ok.2.2.1.2
    have tc0 := h.ok.1.2.1
    have H := Lib.hid h
    have HK := Lib.hid hk
    have HL := Lib.hid hl
    clear h hk hl
    go_enter Tryz.func19, Tryz.ntmps19
    go_wp2_with fail
    refine (addr_v (a := plA off) (by decide) (by decide) o0 o1 rfl).mono ?_
    rintro e w' ⟨rfl, rfl⟩
    go_wp2_with fail
    refine (where_v a0 a1 HK.out).mono ?_
    rintro e w1 ⟨rfl, b1⟩
    have H1 := Lib.hid (H.out.keep b1)
    have K1 : Hid (Kp [] w w1) := Lib.hid (Kp.of_below b1)
    clear b1 H
    go_wp2_with fail
    refine rg_begin (S := fun w' => True) 7 #[false, false, false, false, false, false, false] (by kernel_rfl) (by kernel_rfl) (by kernel_rfl) ?_ (fun hHeld => ?_)
    · exact trivial
    refine rg_take (i := 0) (d := some 33) (l := #[true, false, false, false, false, false, false]) (fuel := 6) (v := ?_) rfl (by kernel_rfl) (by kernel_rfl) (by kernel_rfl) (by kernel_rfl) (by kernel_rfl) (fun _ _ _ h => h) (by kernel_rfl) ?_ (by assumption) ?_
    rotate_left 1
    · (intro wS hSw; (try dsimp only at hSw); go_simp; try with_reducible rfl)
    try simp only [Act.put, List.setIfInBounds_toArray, List.set_cons_zero, List.set_cons_succ]
    refine rg_take (i := 1) (d := some 34) (l := #[true, true, false, false, false, false, false]) (fuel := 5) (v := ?_) rfl (by kernel_rfl) (by kernel_rfl) (by kernel_rfl) (by kernel_rfl) (by kernel_rfl) (fun _ _ _ h => h) (by kernel_rfl) ?_ (by assumption) ?_
    rotate_left 1
    · (intro wS hSw; (try dsimp only at hSw); go_simp; try with_reducible rfl)
    try simp only [Act.put, List.setIfInBounds_toArray, List.set_cons_zero, List.set_cons_succ]
    refine rg_take (i := 2) (d := some 35) (l := #[true, true, true, false, false, false, false]) (fuel := 4) (v := ?_) rfl (by kernel_rfl) (by kernel_rfl) (by kernel_rfl) (by kernel_rfl) (by kernel_rfl) (fun _ _ _ h => h) (by kernel_rfl) ?_ (by assumption) ?_
    rotate_left 1
    · (intro wS hSw; (try dsimp only at hSw); go_simp; try with_reducible rfl)
    try simp only [Act.put, List.setIfInBounds_toArray, List.set_cons_zero, List.set_cons_succ]
    refine rg_take (i := 3) (d := some 36) (l := #[true, true, true, true, false, false, false]) (fuel := 3) (v := ?_) rfl (by kernel_rfl) (by kernel_rfl) (by kernel_rfl) (by kernel_rfl) (by kernel_rfl) (fun _ _ _ h => h) (by kernel_rfl) ?_ (by assumption) ?_
    rotate_left 1
    · (intro wS hSw; (try dsimp only at hSw); go_simp; try with_reducible rfl)
    try simp only [Act.put, List.setIfInBounds_toArray, List.set_cons_zero, List.set_cons_succ]
    refine rg_take (i := 5) (d := some 38) (l := #[true, true, true, true, false, true, false]) (fuel := 2) (v := ?_) rfl (by kernel_rfl) (by kernel_rfl) (by kernel_rfl) (by kernel_rfl) (by kernel_rfl) (fun _ _ _ h => h) (by kernel_rfl) ?_ (by assumption) ?_
    rotate_left 1
    · (intro wS hSw; (try dsimp only at hSw); go_simp; try with_reducible rfl)
    try simp only [Act.put, List.setIfInBounds_toArray, List.set_cons_zero, List.set_cons_succ]
    refine rg_next (i := 4) (l := #[true, true, true, true, true, true, false]) (fuel := 1) (by kernel_rfl) rfl (by kernel_rfl) (by kernel_rfl) (fun K hK => ?_)
    go_simp
    (go_at_call 67)
    refine (reg_v a0 a1 rfl).mono ?_
    rintro e w2 ⟨rfl, b2⟩
    have HH := Lib.hid ((H1.out.kp0 (Kp.refl _ _).drew).keep b2)
    have KK : Hid (Kp [] w w2) := Lib.hid (K1.out.drew.trans (Kp.of_below (L := []) b2) (by simp))
    clear b2 H1 K1
    first | (refine hK.out _ _ ?_ (fun hHeld => ?_)) | (go_wp2_with fail; refine hK.out _ _ ?_ (fun hHeld => ?_))
    · (try dsimp only); try exact trivial
    clear hK K
    try simp only [Act.put, List.setIfInBounds_toArray, List.set_cons_zero, List.set_cons_succ]
    refine rg_next (i := 6) (l := #[true, true, true, true, true, true, true]) (fuel := 0) (by kernel_rfl) rfl (by kernel_rfl) (by kernel_rfl) (fun K hK => ?_)
    go_simp
    (go_at_call 69)
    obtain ⟨cs, q1, q2⟩ := HH.out.irq
    refine (qwrite_any q1 (regI (plA off)) u u0 u1).mono ?_
    rintro e w3 ⟨rfl, y1, y2⟩
    have H2 := Lib.hid (q2 _ _ y1 y2)
    have K2 : Hid (Kp [g, b.v, b.c, b.p] w w3) := Lib.hid ((KK.out.mono (by simp)).trans (y2.mono (M := [g, b.v, b.c, b.p]) (by simp)) (fun y hy => .inl hy))
    clear q1 q2 y1 y2 cs HH KK
    first | (refine hK.out _ _ ?_ (fun hHeld => ?_)) | (go_wp2_with fail; refine hK.out _ _ ?_ (fun hHeld => ?_))
    · (try dsimp only); try exact trivial
    clear hK K
    try simp only [Act.put, List.setIfInBounds_toArray, List.set_cons_zero, List.set_cons_succ]
    refine wpAnyH_done (by kernel_rfl) ?_ _
    obtain ⟨l1, l2, l3⟩ := H2.out.lat
    have L1 := Lib.hid l1
    have L2 := Lib.hid l2
    have L3 := Lib.hid (l3 u u0 u1)
    clear l1 l2 l3
    go_wp2_with fail
    refine (plwrite_any L1.out L2.out u).mono ?_
    rintro e w3 ⟨rfl, rfl⟩
    go_wp2_with fail
    first | go_end0 | refine bodyPost_ret (results_none rfl _ _ _) rfl ?_
    exact ⟨rfl, L3.out.1, K2.out.trans (L3.out.2.mono (M := [g, b.v, b.c, b.p]) (by simp)) (fun y hy => .inl hy)⟩
set_option maxHeartbeats 4000000 in
theorem hwrite0 (h : HP w g d b x) (off k : Int) (o0 : 0 ≤ off) (o1 : off ≤ 65535) (u : Int) (hk : whereI (plA off) = k) (hn : k < 5 ∨ 8 < k) :
    Calls Tryz.prog 19 #[.pointer (some ⟨g, 0, none⟩), .int .u16 off, .int .u8 u] w (HpR (.tuple #[]) g d b x [g, b.v, b.c, b.p] w) := by
    obtain ⟨a0, a1⟩ := plA_bd off o0
    have n5 : (k == 5) = false := by simp; omega
    have n6 : (k == 6) = false := by simp; omega
    have n7 : (k == 7) = false := by simp; omega
    have n8 : (k == 8) = false := by simp; omega
    have H := Lib.hid h
    have HK := Lib.hid hk
    clear h hk hn
    go_enter Tryz.func19, Tryz.ntmps19
    go_wp2_with fail
    refine (addr_v (a := plA off) (by decide) (by decide) o0 o1 rfl).mono ?_
    rintro e w' ⟨rfl, rfl⟩
    go_wp2_with fail
    refine (where_v a0 a1 HK.out).mono ?_
    rintro e w1 ⟨rfl, b1⟩
    have H1 := Lib.hid (H.out.keep b1)
    have K1 : Hid (Kp [] w w1) := Lib.hid (Kp.of_below b1)
    clear b1 H
    go_wp2_with fail
    first | go_end0 | refine bodyPost_ret (results_none rfl _ _ _) rfl ?_
    exact ⟨rfl, H1.out, K1.out.mono (by simp)⟩
theorem hwrite_any (h : HP w g d b x) (hl : x.lim 1000000) (off u : Int) (o0 : 0 ≤ off) (o1 : off ≤ 65535) (u0 : 0 ≤ u) (u1 : u ≤ 255) :
    Calls Tryz.prog 19 #[.pointer (some ⟨g, 0, none⟩), .int .u16 off, .int .u8 u] w (HpR (.tuple #[]) g d b (x.wr (whereI (plA off)) (regI (plA off)) u) [g, b.v, b.c, b.p] w) := by
  obtain ⟨k, hk⟩ : ∃ k, whereI (plA off) = k := ⟨_, rfl⟩
  by_cases h5 : k = 5
  · subst h5; rw [hk]; exact hwrite5 h hl off o0 o1 u u0 u1 hk
  by_cases h6 : k = 6
  · subst h6; rw [hk]; exact hwrite6 h hl off o0 o1 u u0 u1 hk
  by_cases h7 : k = 7
  · subst h7; rw [hk]; exact hwrite7 h hl off o0 o1 u u0 u1 hk
  by_cases h8 : k = 8
  · subst h8; rw [hk]; exact hwrite8 h hl off o0 o1 u u0 u1 hk
  have e2 : x.wr k (regI (plA off)) u = x := by unfold Hp.wr; rw [if_neg h5, if_neg h6, if_neg h7, if_neg h8]
  rw [hk, e2]
  exact hwrite0 h off k o0 o1 u hk (by omega)
end
end Go.Proofs.YtcnjekballnncaaGreat
