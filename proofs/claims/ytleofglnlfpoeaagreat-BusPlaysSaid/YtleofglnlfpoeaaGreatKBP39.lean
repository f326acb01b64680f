/-
  Texts of these proofs, one behind the other: Rb7, Rb8, Rb9.
-/
import Derived.Test.YtleofglnlfpoeaaGreatKBP38
import Derived.Test.YtleofglnlfpoeaaGreatKBP36
import Derived.Test.YtleofglnlfpoeaaGreatKBP21
import Derived.Deep.Cut
import Derived.Deep.CutRange
import Derived.Deep.CutBlock
import Derived.Deep.RegionHeld3
namespace Go.Proofs.YtleofglnlfpoeaaGreat
open Go.RowKit
set_option linter.unusedVariables false
set_option linter.unusedSimpArgs false
set_option maxRecDepth 100000
/-- A bus and the reference's, alike, made since W, things apart. -/
structure BX (W w : World) (g : Nat) (d : Hd) (P : Bp) (r : Nat) (Q : Rbp) (s : Bs) (nx : Bool) : Prop where
  bu : BU w g d P s
  rb : RBU W w r d Q s nx
  ap : ∀ y ∈ bL g P, y ∉ rbL r Q
  yo : ∀ u ∈ [g, P.b.v, P.b.c, P.b.p], u ≤ Q.m
  lo : ∀ y ∈ bL g P, W.heap.size ≤ y
def bxL (g : Nat) (P : Bp) (r : Nat) (Q : Rbp) : List Nat := bL g P ++ rbL r Q
section
variable {W w w1 w2 w' : World} {g : Nat} {d : Hd} {P P' : Bp} {r : Nat} {Q : Rbp} {s s' : Bs} {nx nx' : Bool} {v v' : Value} {e e' : Ending} {t : Value}
/-- What the reference's blocks are to a bus: bytes alone in its work memory, which is younger. -/
theorem RBU.nbx (h : RBU W w r d Q s nx) {M : List Nat} (hM : ∀ u ∈ M, u ≤ Q.m) : ∀ y ∈ rbL r Q, NBx w M y := by
  intro y hy
  obtain ⟨C, hC, _⟩ := h.ram
  rcases mem_rbL.1 hy with e | e | e | e | e
  · rw [e]; exact (NB.of h.blk (by decide) (by decide)).x
  · rw [e]; exact NBx.of8 hC hM
  · rw [e]; exact (NB.of h.ck (by decide) (by decide)).x
  · obtain ⟨t, cs, hb, n1, n2, n3, n4, n5⟩ := h.typed.1 y e
    exact (NB.of hb (Ne.symm n2) (Ne.symm n5)).x
  · obtain ⟨cs, hb⟩ := h.typed.2 y e
    exact (NB.of hb (by decide) (by decide)).x
theorem BX.kp0 (h : BX W w g d P r Q s nx) (k : Kp [] w w') : BX W w' g d P r Q s nx := ⟨h.bu.kp0 k, h.rb.kp0 k, h.ap, h.yo, h.lo⟩
theorem BX.on (h : BX W w g d P r Q s nx) (k : Below w.heap.size w w') : BX W w' g d P r Q s nx := h.kp0 (Kp.of_below k)
/-- The reference's behind a call on the bus. -/
theorem BX.ref1 (h : BX W w g d P r Q s nx) (k : Kp (bL g P) w w1) : RBU W w1 r d Q s nx := h.rb.kp k (fun y hy hy2 => h.ap y hy2 hy) h.lo
/-- Both did the same. -/
theorem BX.two (h : BX W w g d P r Q s nx) (h1 : BU w1 g d P' s') (k1 : Kp (bL g P) w w1) (f1 : ∀ y ∈ bL g P', y ∈ bL g P ∨ w.heap.size ≤ y) (q1 : P'.b = P.b)
    (h2 : RBU W w2 r d { Q with tr := t } s' nx') (k2 : Kp (rbL r Q) w1 w2) (f2 : ∀ y ∈ rbL r { Q with tr := t }, y ∈ rbL r Q ∨ w1.heap.size ≤ y) :
    BX W w2 g d P' r { Q with tr := t } s' nx' ∧ Kp (bxL g P r Q) w w2 ∧ ∀ y ∈ bxL g P' r { Q with tr := t }, y ∈ bxL g P r Q ∨ w.heap.size ≤ y := by
  have r1 := h.ref1 k1
  have hlt := h.rb.lt
  have ap1 : ∀ y ∈ bL g P', y ∉ rbL r Q := fun y hy hy2 => by
    rcases f1 y hy with e | e
    · exact h.ap y e hy2
    · have := hlt y hy2; omega
  have yo1 : ∀ u ∈ [g, P'.b.v, P'.b.c, P'.b.p], u ≤ Q.m := by rw [q1]; exact h.yo
  refine ⟨⟨h1.kpx k2 (r1.nbx yo1) ap1, h2, fun y hy hy2 => ?_, yo1, fun y hy => ?_⟩, ?_, fun y hy => ?_⟩
  · rcases f2 y hy2 with e | e
    · exact ap1 y hy e
    · have := h1.lt y hy; omega
  · rcases f1 y hy with e | e
    · exact h.lo y e
    · exact Nat.le_trans h.rb.old.size e
  · exact (k1.mono (M := bxL g P r Q) (fun z hz => List.mem_append_left _ hz)).trans (k2.mono (M := bxL g P r Q) (fun z hz => List.mem_append_right _ hz)) (fun z hz => .inl hz)
  · rcases List.mem_append.1 hy with hy | hy
    · exact (f1 y hy).imp (fun e => List.mem_append_left _ e) id
    · exact (f2 y hy).imp (fun e => List.mem_append_right _ e) (fun e => Nat.le_trans k1.size e)
end
end Go.Proofs.YtleofglnlfpoeaaGreat
namespace Go.Proofs.YtleofglnlfpoeaaGreat
open Go.RowKit
set_option linter.unusedVariables false
set_option linter.unusedSimpArgs false
set_option maxRecDepth 100000
section
variable {W w : World} {g : Nat} {d : Hd} {P : Bp} {r : Nat} {Q : Rbp} {s : Bs} {nx : Bool}
theorem rk0 (a b : Int) (x y z : Bool) : (rk a b x y z)[0]? = some (.int .i64 a) := rfl
theorem rk1 (a b : Int) (x y z : Bool) : (rk a b x y z)[1]? = some (.bool x) := rfl
theorem bnow_v (h : BU w g d P s) {v : Int} (e : s.now = v) : Calls Tryz.prog 22 #[.pointer (some ⟨g, 0, none⟩)] w fun e w' => e = .returned (.int .i64 v) ∧ w = w' := e ▸ bnow_any h
theorem bfast_v (h : BU w g d P s) {v : Bool} (e : s.fast = v) : Calls Tryz.prog 27 #[.pointer (some ⟨g, 0, none⟩)] w fun e w' => e = .returned (.bool v) ∧ w = w' := e ▸ bfast_any h
theorem bleft_v (h : BU w g d P s) {v : Int} (e : s.left = v) : Calls Tryz.prog 23 #[.pointer (some ⟨g, 0, none⟩)] w fun e w' => e = .returned (.int .i64 v) ∧ w = w' := e ▸ bleft_any h
theorem bover_v (h : BU w g d P s) {v : Bool} (e : s.over = v) : Calls Tryz.prog 25 #[.pointer (some ⟨g, 0, none⟩)] w fun e w' => e = .returned (.bool v) ∧ w = w' := e ▸ bover_any h
theorem bchoose_v (h : BU w g d P s) {m : Bool} {v : Int} (e : s.x.ch d m = v) : Calls Tryz.prog 26 #[.pointer (some ⟨g, 0, none⟩), .bool m] w fun e w' => e = .returned (.int .u8 v) ∧ Below w.heap.size w w' := e ▸ bchoose_any h m
/-- What Status answers (still to be proved: its result is a variable, a whole row is stored). -/
def StOk (g : Nat) (d : Hd) (P : Bp) (s : Bs) : Prop := ∀ u, BU u g d P s → Calls Tryz.prog 29 #[.pointer (some ⟨g, 0, none⟩)] u fun e w' => e = .returned (.agg (stC s.x)) ∧ Below u.heap.size u w'
theorem bstatus_v (ST : StOk g d P s) (h : BU w g d P s) {v : Array Value} (e : stC s.x = v) : Calls Tryz.prog 29 #[.pointer (some ⟨g, 0, none⟩)] w fun e w' => e = .returned (.agg v) ∧ Below w.heap.size w w' := e ▸ ST w h
theorem rhstatus_v {r : Nat} {J : Rr} {Z : Rz} {x : Hp} (h : RHp w r d J Z x) {v : Array Value} (e : stC x = v) : Calls Tryz.prog 59 #[.pointer (some ⟨r, 0, none⟩)] w fun e w' => e = .returned (.agg v) ∧ Below w.heap.size w w' := e ▸ rhstatus_any h
theorem rhchoose_v {r : Nat} {J : Rr} {Z : Rz} {x : Hp} (h : RHp w r d J Z x) (hok : x.ok d) (hG : Good d.n d.es) (RE : ERow w Z.A d.n d.es) {m : Bool} {v : Int} (e : x.ch d m = v) :
    Calls Tryz.prog 60 #[.pointer (some ⟨r, 0, none⟩), .bool m] w fun e w' => e = .returned (.int .u8 v) ∧ Below w.heap.size w w' := e ▸ rhchoose_any h hok hG RE m
set_option maxHeartbeats 16000000 in
theorem alike_any (ST : StOk g d P s) (h : BX W w g d P r Q s nx) (C : HC W d Q.Z) (m : Bool) :
    Calls Tryz.prog 14 #[.pointer (some ⟨g, 0, none⟩), .pointer (some ⟨r, 0, none⟩), .bool m] w fun e w' => e = .returned (.bool true) ∧ Below w.heap.size w w' := by
  obtain ⟨N, hN⟩ : ∃ v, s.now = v := ⟨_, rfl⟩
  obtain ⟨F, hF⟩ : ∃ v, s.fast = v := ⟨_, rfl⟩
  obtain ⟨L, hL⟩ : ∃ v, s.left = v := ⟨_, rfl⟩
  obtain ⟨O, hO⟩ : ∃ v, s.over = v := ⟨_, rfl⟩
  obtain ⟨S, hS⟩ : ∃ v, stC s.x = v := ⟨_, rfl⟩
  obtain ⟨V, hV⟩ : ∃ v, s.x.ch d m = v := ⟨_, rfl⟩
  obtain ⟨_, _, c2, c3, c4, c5, _⟩ := h.rb.cells
  have d0 : w.cell? ⟨Q.c, 0, none⟩ = some (.int .i64 N) := hN ▸ h.rb.ck.cell 0
  have d1 : w.cell? ⟨Q.c, 1, none⟩ = some (.bool F) := hF ▸ h.rb.ck.cell 1
  rw [hL] at c4
  rw [hO] at c5
  have m1 : (N == N) = true := by simp
  have m2 : (F == F) = true := by simp
  have m3 : (L == L) = true := by simp
  have m4 : (O == O) = true := by simp
  have m5 : (V == V) = true := by simp
  have HN := Lib.hid hN
  have HF := Lib.hid hF
  have HL := Lib.hid hL
  have HO := Lib.hid hO
  have HS := Lib.hid hS
  have HV := Lib.hid hV
  have H := Lib.hid h
  have HC := Lib.hid C
  have HST := Lib.hid ST
  clear ST h C hN hF hL hO hS hV
  go_enter Tryz.func14, Tryz.ntmps14
  go_upto_region 1 with fail
  refine rg_begin (S := fun w' => w'.cell? ⟨r, 2, none⟩ = some (.pointer (some ⟨Q.p, 0, none⟩)) ∧ w'.cell? ⟨r, 3, none⟩ = some (.pointer (some ⟨Q.c, 0, none⟩)) ∧ w'.cell? ⟨r, 4, none⟩ = some (.int .i64 L) ∧ w'.cell? ⟨r, 5, none⟩ = some (.bool O) ∧ w'.cell? ⟨Q.c, 0, none⟩ = some (.int .i64 N) ∧ w'.cell? ⟨Q.c, 1, none⟩ = some (.bool F)) 63 #[false, false, false, false, false, false, false, false, false, false, false, false, false, false, false, false, false, false, false, false, false, false, false, false, false, false, false, false, false, false, false, false, false, false, false, false, false, false, false, false, false, false, false, false, false, false, false, false, false, false, false, false, false, false, false, false, false, false, false, false, false, false, false] (by kernel_rfl) (by kernel_rfl) (by kernel_rfl) ?_ (fun hHeld => ?_)
  · exact ⟨c2, c3, c4, c5, d0, d1⟩
  have H0 := Lib.hid (H.out.kp0 (Kp.refl [] _).drew)
  have B0 : Hid (Below w.heap.size w w.drew) := Lib.hid ((Below.refl _ _).drew)
  refine rgt 0 (some 7) (v := ?_) rfl ?_ ?_
  rotate_left 1
  · (intro wS hSw; (try dsimp only at hSw); go_simp; try with_reducible rfl)
  refine rgt 2 (some 9) (v := ?_) rfl ?_ ?_
  rotate_left 1
  · (intro wS hSw; (try dsimp only at hSw); go_simp; try with_reducible rfl)
  refine rgt 3 (some 10) (v := ?_) rfl ?_ ?_
  rotate_left 1
  · (intro wS hSw; (try dsimp only at hSw); go_simp; try with_reducible rfl)
  refine rgt 4 (some 11) (v := ?_) rfl ?_ ?_
  rotate_left 1
  · (intro wS hSw; (try dsimp only at hSw); go_simp; try with_reducible rfl)
  refine rgt 5 (some 12) (v := ?_) rfl ?_ ?_
  rotate_left 1
  · (intro wS hSw; (try dsimp only at hSw); go_simp; try with_reducible rfl)
  refine rgt 6 (some 13) (v := ?_) rfl ?_ ?_
  rotate_left 1
  · (intro wS hSw; (try dsimp only at hSw); go_simp; try with_reducible rfl)
  refine rgt 7 (some 14) (v := ?_) rfl ?_ ?_
  rotate_left 1
  · (intro wS hSw; (try dsimp only at hSw); go_simp; try with_reducible rfl)
  refine rgt 8 (some 15) (v := ?_) rfl ?_ ?_
  rotate_left 1
  · (intro wS hSw; (try dsimp only at hSw); go_simp; try with_reducible rfl)
  try simp only [Act.put, List.setIfInBounds_toArray, List.set_cons_zero, List.set_cons_succ]
  refine rg_next (i := 1) (l := #[true, true, true, true, true, true, true, true, true, false, false, false, false, false, false, false, false, false, false, false, false, false, false, false, false, false, false, false, false, false, false, false, false, false, false, false, false, false, false, false, false, false, false, false, false, false, false, false, false, false, false, false, false, false, false, false, false, false, false, false, false, false, false]) (fuel := 54) (by kernel_rfl) rfl (by kernel_rfl) (by kernel_rfl) (fun K hK => ?_)
  go_simp
  (go_at_call 22)
  refine (bnow_v H0.out.bu HN.out).mono ?_
  rintro e w' ⟨rfl, rfl⟩
  first | (refine hK.out _ _ ?_ (fun hHeld => ?_)) | (go_wp2_with fail; refine hK.out _ _ ?_ (fun hHeld => ?_))
  · (try dsimp only); exact ⟨c2, c3, c4, c5, d0, d1⟩
  clear hK K
  refine rgt 9 (some 16) (v := .bool true) rfl ?_ ?_
  · (intro wS hSw; (try dsimp only at hSw); go_simp)
  refine rgt 10 (some 17) (v := ?_) rfl ?_ ?_
  rotate_left 1
  · (intro wS hSw; (try dsimp only at hSw); go_simp; try with_reducible rfl)
  refine rgt 11 (some 18) (v := ?_) rfl ?_ ?_
  rotate_left 1
  · (intro wS hSw; (try dsimp only at hSw); go_simp; try with_reducible rfl)
  refine rgt 13 (some 20) (v := ?_) rfl ?_ ?_
  rotate_left 1
  · (intro wS hSw; (try dsimp only at hSw); go_simp; try with_reducible rfl)
  refine rgt 14 (some 21) (v := ?_) rfl ?_ ?_
  rotate_left 1
  · (intro wS hSw; (try dsimp only at hSw); go_simp; try with_reducible rfl)
  refine rgt 15 (some 22) (v := ?_) rfl ?_ ?_
  rotate_left 1
  · (intro wS hSw; (try dsimp only at hSw); go_simp; try with_reducible rfl)
  refine rgt 16 (some 23) (v := ?_) rfl ?_ ?_
  rotate_left 1
  · (intro wS hSw; (try dsimp only at hSw); go_simp; try with_reducible rfl)
  refine rgt 17 (some 24) (v := ?_) rfl ?_ ?_
  rotate_left 1
  · (intro wS hSw; (try dsimp only at hSw); go_simp; try with_reducible rfl)
  refine rgt 18 (some 25) (v := ?_) rfl ?_ ?_
  rotate_left 1
  · (intro wS hSw; (try dsimp only at hSw); go_simp; try with_reducible rfl)
  refine rgt 19 (some 26) (v := ?_) rfl ?_ ?_
  rotate_left 1
  · (intro wS hSw; (try dsimp only at hSw); go_simp; try with_reducible rfl)
  try simp only [Act.put, List.setIfInBounds_toArray, List.set_cons_zero, List.set_cons_succ]
  refine rg_next (i := 12) (l := #[true, true, true, true, true, true, true, true, true, true, true, true, true, true, true, true, true, true, true, true, false, false, false, false, false, false, false, false, false, false, false, false, false, false, false, false, false, false, false, false, false, false, false, false, false, false, false, false, false, false, false, false, false, false, false, false, false, false, false, false, false, false, false]) (fuel := 43) (by kernel_rfl) rfl (by kernel_rfl) (by kernel_rfl) (fun K hK => ?_)
  go_simp
  (go_at_call 27)
  refine (bfast_v H0.out.bu HF.out).mono ?_
  rintro e w' ⟨rfl, rfl⟩
  first | (refine hK.out _ _ ?_ (fun hHeld => ?_)) | (go_wp2_with fail; refine hK.out _ _ ?_ (fun hHeld => ?_))
  · (try dsimp only); exact ⟨c2, c3, c4, c5, d0, d1⟩
  clear hK K
  refine rgt 20 (some 27) (v := .bool true) rfl ?_ ?_
  · (intro wS hSw; (try dsimp only at hSw); go_simp)
  refine rgt 21 (some 28) (v := ?_) rfl ?_ ?_
  rotate_left 1
  · (intro wS hSw; (try dsimp only at hSw); go_simp; try with_reducible rfl)
  refine rgt 22 (some 29) (v := ?_) rfl ?_ ?_
  rotate_left 1
  · (intro wS hSw; (try dsimp only at hSw); go_simp; try with_reducible rfl)
  refine rgt 23 (some 30) (v := ?_) rfl ?_ ?_
  rotate_left 1
  · (intro wS hSw; (try dsimp only at hSw); go_simp; try with_reducible rfl)
  refine rgt 25 (some 32) (v := ?_) rfl ?_ ?_
  rotate_left 1
  · (intro wS hSw; (try dsimp only at hSw); go_simp; try with_reducible rfl)
  refine rgt 26 (some 33) (v := ?_) rfl ?_ ?_
  rotate_left 1
  · (intro wS hSw; (try dsimp only at hSw); go_simp; try with_reducible rfl)
  refine rgt 27 (some 34) (v := ?_) rfl ?_ ?_
  rotate_left 1
  · (intro wS hSw; (try dsimp only at hSw); go_simp; try with_reducible rfl)
  refine rgt 28 (some 35) (v := ?_) rfl ?_ ?_
  rotate_left 1
  · (intro wS hSw; (try dsimp only at hSw); go_simp; try with_reducible rfl)
  try simp only [Act.put, List.setIfInBounds_toArray, List.set_cons_zero, List.set_cons_succ]
  refine rg_next (i := 24) (l := #[true, true, true, true, true, true, true, true, true, true, true, true, true, true, true, true, true, true, true, true, true, true, true, true, true, true, true, true, true, false, false, false, false, false, false, false, false, false, false, false, false, false, false, false, false, false, false, false, false, false, false, false, false, false, false, false, false, false, false, false, false, false, false]) (fuel := 34) (by kernel_rfl) rfl (by kernel_rfl) (by kernel_rfl) (fun K hK => ?_)
  go_simp
  (go_at_call 23)
  refine (bleft_v H0.out.bu HL.out).mono ?_
  rintro e w' ⟨rfl, rfl⟩
  first | (refine hK.out _ _ ?_ (fun hHeld => ?_)) | (go_wp2_with fail; refine hK.out _ _ ?_ (fun hHeld => ?_))
  · (try dsimp only); exact ⟨c2, c3, c4, c5, d0, d1⟩
  clear hK K
  refine rgt 29 (some 36) (v := .bool true) rfl ?_ ?_
  · (intro wS hSw; (try dsimp only at hSw); go_simp)
  refine rgt 30 (some 37) (v := ?_) rfl ?_ ?_
  rotate_left 1
  · (intro wS hSw; (try dsimp only at hSw); go_simp; try with_reducible rfl)
  refine rgt 31 (some 38) (v := ?_) rfl ?_ ?_
  rotate_left 1
  · (intro wS hSw; (try dsimp only at hSw); go_simp; try with_reducible rfl)
  refine rgt 32 (some 39) (v := ?_) rfl ?_ ?_
  rotate_left 1
  · (intro wS hSw; (try dsimp only at hSw); go_simp; try with_reducible rfl)
  refine rgt 34 (some 41) (v := ?_) rfl ?_ ?_
  rotate_left 1
  · (intro wS hSw; (try dsimp only at hSw); go_simp; try with_reducible rfl)
  refine rgt 35 (some 42) (v := ?_) rfl ?_ ?_
  rotate_left 1
  · (intro wS hSw; (try dsimp only at hSw); go_simp; try with_reducible rfl)
  refine rgt 36 (some 43) (v := ?_) rfl ?_ ?_
  rotate_left 1
  · (intro wS hSw; (try dsimp only at hSw); go_simp; try with_reducible rfl)
  refine rgt 37 (some 44) (v := ?_) rfl ?_ ?_
  rotate_left 1
  · (intro wS hSw; (try dsimp only at hSw); go_simp; try with_reducible rfl)
  try simp only [Act.put, List.setIfInBounds_toArray, List.set_cons_zero, List.set_cons_succ]
  refine rg_next (i := 33) (l := #[true, true, true, true, true, true, true, true, true, true, true, true, true, true, true, true, true, true, true, true, true, true, true, true, true, true, true, true, true, true, true, true, true, true, true, true, true, true, false, false, false, false, false, false, false, false, false, false, false, false, false, false, false, false, false, false, false, false, false, false, false, false, false]) (fuel := 25) (by kernel_rfl) rfl (by kernel_rfl) (by kernel_rfl) (fun K hK => ?_)
  go_simp
  (go_at_call 25)
  refine (bover_v H0.out.bu HO.out).mono ?_
  rintro e w' ⟨rfl, rfl⟩
  first | (refine hK.out _ _ ?_ (fun hHeld => ?_)) | (go_wp2_with fail; refine hK.out _ _ ?_ (fun hHeld => ?_))
  · (try dsimp only); exact ⟨c2, c3, c4, c5, d0, d1⟩
  clear hK K
  refine rgt 38 (some 45) (v := .bool true) rfl ?_ ?_
  · (intro wS hSw; (try dsimp only at hSw); go_simp)
  refine rgt 39 (some 46) (v := ?_) rfl ?_ ?_
  rotate_left 1
  · (intro wS hSw; (try dsimp only at hSw); go_simp; try with_reducible rfl)
  refine rgt 40 (some 47) (v := ?_) rfl ?_ ?_
  rotate_left 1
  · (intro wS hSw; (try dsimp only at hSw); go_simp; try with_reducible rfl)
  refine rgt 41 (some 48) (v := ?_) rfl ?_ ?_
  rotate_left 1
  · (intro wS hSw; (try dsimp only at hSw); go_simp; try with_reducible rfl)
  refine rgt 43 (some 50) (v := ?_) rfl ?_ ?_
  rotate_left 1
  · (intro wS hSw; (try dsimp only at hSw); go_simp; try with_reducible rfl)
  refine rgt 44 (some 51) (v := ?_) rfl ?_ ?_
  rotate_left 1
  · (intro wS hSw; (try dsimp only at hSw); go_simp; try with_reducible rfl)
  refine rgt 45 (some 52) (v := ?_) rfl ?_ ?_
  rotate_left 1
  · (intro wS hSw; (try dsimp only at hSw); go_simp; try with_reducible rfl)
  refine rgt 46 (some 53) (v := ?_) rfl ?_ ?_
  rotate_left 1
  · (intro wS hSw; (try dsimp only at hSw); go_simp; try with_reducible rfl)
  try simp only [Act.put, List.setIfInBounds_toArray, List.set_cons_zero, List.set_cons_succ]
  refine rg_next (i := 42) (l := #[true, true, true, true, true, true, true, true, true, true, true, true, true, true, true, true, true, true, true, true, true, true, true, true, true, true, true, true, true, true, true, true, true, true, true, true, true, true, true, true, true, true, true, true, true, true, true, false, false, false, false, false, false, false, false, false, false, false, false, false, false, false, false]) (fuel := 16) (by kernel_rfl) rfl (by kernel_rfl) (by kernel_rfl) (fun K hK => ?_)
  go_simp
  (go_at_call 29)
  refine (bstatus_v HST.out H0.out.bu HS.out).mono ?_
  rintro e u1 ⟨rfl, bb⟩
  have H1 := Lib.hid (H0.out.on bb)
  have B1 := Lib.hid (B0.out.trans (bb.mono B0.out.size))
  clear bb c2 c3 c4 c5 d0 d1
  obtain ⟨_, _, c2, c3, c4, c5, _⟩ := H1.out.rb.cells
  rw [HL.out] at c4
  rw [HO.out] at c5
  have d0 := H1.out.rb.ck.cell 0
  have d1 := H1.out.rb.ck.cell 1
  rw [rk0, HN.out] at d0
  rw [rk1, HF.out] at d1
  first | (refine hK.out _ _ ?_ (fun hHeld => ?_)) | (go_wp2_with fail; refine hK.out _ _ ?_ (fun hHeld => ?_))
  · (try dsimp only); exact ⟨c2, c3, c4, c5, d0, d1⟩
  clear hK K
  try simp only [Act.put, List.setIfInBounds_toArray, List.set_cons_zero, List.set_cons_succ]
  refine rg_next (i := 47) (l := #[true, true, true, true, true, true, true, true, true, true, true, true, true, true, true, true, true, true, true, true, true, true, true, true, true, true, true, true, true, true, true, true, true, true, true, true, true, true, true, true, true, true, true, true, true, true, true, true, false, false, false, false, false, false, false, false, false, false, false, false, false, false, false]) (fuel := 15) (by kernel_rfl) rfl (by kernel_rfl) (by kernel_rfl) (fun K hK => ?_)
  go_simp
  (go_at_call 59)
  refine (rhstatus_v H1.out.rb.pg HS.out).mono ?_
  rintro e u2 ⟨rfl, bb⟩
  have H2 := Lib.hid (H1.out.on bb)
  have B2 := Lib.hid (B1.out.trans (bb.mono B1.out.size))
  clear bb c2 c3 c4 c5 d0 d1
  obtain ⟨_, _, c2, c3, c4, c5, _⟩ := H2.out.rb.cells
  rw [HL.out] at c4
  rw [HO.out] at c5
  have d0 := H2.out.rb.ck.cell 0
  have d1 := H2.out.rb.ck.cell 1
  rw [rk0, HN.out] at d0
  rw [rk1, HF.out] at d1
  first | (refine hK.out _ _ ?_ (fun hHeld => ?_)) | (go_wp2_with fail; refine hK.out _ _ ?_ (fun hHeld => ?_))
  · (try dsimp only); exact ⟨c2, c3, c4, c5, d0, d1⟩
  clear hK K
  refine rgt 48 (some 55) (v := .bool true) rfl ?_ ?_
  · (intro wS hSw; (try dsimp only at hSw); (rw [← HS.out]; unfold stC; go_simp))
  refine rgt 49 (some 56) (v := ?_) rfl ?_ ?_
  rotate_left 1
  · (intro wS hSw; (try dsimp only at hSw); go_simp; try with_reducible rfl)
  refine rgt 50 (some 57) (v := ?_) rfl ?_ ?_
  rotate_left 1
  · (intro wS hSw; (try dsimp only at hSw); go_simp; try with_reducible rfl)
  refine rgt 51 (some 58) (v := ?_) rfl ?_ ?_
  rotate_left 1
  · (intro wS hSw; (try dsimp only at hSw); go_simp; try with_reducible rfl)
  refine rgt 52 (some 59) (v := ?_) rfl ?_ ?_
  rotate_left 1
  · (intro wS hSw; (try dsimp only at hSw); go_simp; try with_reducible rfl)
  refine rgt 54 (some 61) (v := ?_) rfl ?_ ?_
  rotate_left 1
  · (intro wS hSw; (try dsimp only at hSw); go_simp; try with_reducible rfl)
  refine rgt 55 (some 62) (v := ?_) rfl ?_ ?_
  rotate_left 1
  · (intro wS hSw; (try dsimp only at hSw); go_simp; try with_reducible rfl)
  refine rgt 56 (some 63) (v := ?_) rfl ?_ ?_
  rotate_left 1
  · (intro wS hSw; (try dsimp only at hSw); go_simp; try with_reducible rfl)
  refine rgt 57 (some 64) (v := ?_) rfl ?_ ?_
  rotate_left 1
  · (intro wS hSw; (try dsimp only at hSw); go_simp; try with_reducible rfl)
  refine rgt 58 (some 65) (v := ?_) rfl ?_ ?_
  rotate_left 1
  · (intro wS hSw; (try dsimp only at hSw); go_simp; try with_reducible rfl)
  try simp only [Act.put, List.setIfInBounds_toArray, List.set_cons_zero, List.set_cons_succ]
  refine rg_next (i := 53) (l := #[true, true, true, true, true, true, true, true, true, true, true, true, true, true, true, true, true, true, true, true, true, true, true, true, true, true, true, true, true, true, true, true, true, true, true, true, true, true, true, true, true, true, true, true, true, true, true, true, true, true, true, true, true, true, true, true, true, true, true, false, false, false, false]) (fuel := 4) (by kernel_rfl) rfl (by kernel_rfl) (by kernel_rfl) (fun K hK => ?_)
  go_simp
  (go_at_call 26)
  refine (bchoose_v H2.out.bu HV.out).mono ?_
  rintro e u3 ⟨rfl, bb⟩
  have H3 := Lib.hid (H2.out.on bb)
  have B3 := Lib.hid (B2.out.trans (bb.mono B2.out.size))
  clear bb c2 c3 c4 c5 d0 d1
  obtain ⟨_, _, c2, c3, c4, c5, _⟩ := H3.out.rb.cells
  rw [HL.out] at c4
  rw [HO.out] at c5
  have d0 := H3.out.rb.ck.cell 0
  have d1 := H3.out.rb.ck.cell 1
  rw [rk0, HN.out] at d0
  rw [rk1, HF.out] at d1
  first | (refine hK.out _ _ ?_ (fun hHeld => ?_)) | (go_wp2_with fail; refine hK.out _ _ ?_ (fun hHeld => ?_))
  · (try dsimp only); exact ⟨c2, c3, c4, c5, d0, d1⟩
  clear hK K
  try simp only [Act.put, List.setIfInBounds_toArray, List.set_cons_zero, List.set_cons_succ]
  refine rg_next (i := 59) (l := #[true, true, true, true, true, true, true, true, true, true, true, true, true, true, true, true, true, true, true, true, true, true, true, true, true, true, true, true, true, true, true, true, true, true, true, true, true, true, true, true, true, true, true, true, true, true, true, true, true, true, true, true, true, true, true, true, true, true, true, true, false, false, false]) (fuel := 3) (by kernel_rfl) rfl (by kernel_rfl) (by kernel_rfl) (fun K hK => ?_)
  go_simp
  (go_at_call 60)
  refine (rhchoose_v H3.out.rb.pg H3.out.bu.pg.ok H3.out.bu.pg.gd (H3.out.rb.rw HC.out).e HV.out).mono ?_
  rintro e u4 ⟨rfl, bb⟩
  have H4 := Lib.hid (H3.out.on bb)
  have B4 := Lib.hid (B3.out.trans (bb.mono B3.out.size))
  clear bb c2 c3 c4 c5 d0 d1
  obtain ⟨_, _, c2, c3, c4, c5, _⟩ := H4.out.rb.cells
  rw [HL.out] at c4
  rw [HO.out] at c5
  have d0 := H4.out.rb.ck.cell 0
  have d1 := H4.out.rb.ck.cell 1
  rw [rk0, HN.out] at d0
  rw [rk1, HF.out] at d1
  first | (refine hK.out _ _ ?_ (fun hHeld => ?_)) | (go_wp2_with fail; refine hK.out _ _ ?_ (fun hHeld => ?_))
  · (try dsimp only); exact ⟨c2, c3, c4, c5, d0, d1⟩
  clear hK K
  refine rgt 60 (some 67) (v := .bool true) rfl ?_ ?_
  · (intro wS hSw; (try dsimp only at hSw); go_simp)
  refine rgt 61 (some 68) (v := ?_) rfl ?_ ?_
  rotate_left 1
  · (intro wS hSw; (try dsimp only at hSw); go_simp; try with_reducible rfl)
  refine rgt 62 (some 6) (v := ?_) rfl ?_ ?_
  rotate_left 1
  · (intro wS hSw; (try dsimp only at hSw); go_simp; try with_reducible rfl)
  try simp only [Act.put, List.setIfInBounds_toArray, List.set_cons_zero, List.set_cons_succ]
  refine wpAnyH_done (by kernel_rfl) ?_ _
  clear hHeld c2 c3 c4 c5 d0 d1
  go_wp2_with fail
  go_ret
  exact ⟨rfl, B4.out⟩
end
end Go.Proofs.YtleofglnlfpoeaaGreat
namespace Go.Proofs.YtleofglnlfpoeaaGreat
open Go.RowKit
set_option linter.unusedVariables false
set_option linter.unusedSimpArgs false
set_option maxRecDepth 100000
section
variable {w : World} {g : Nat} {d : Hd} {P : Bp} {s : Bs}
set_option maxHeartbeats 8000000 in
theorem bstatus_any (h : BU w g d P s) : Calls Tryz.prog 29 #[.pointer (some ⟨g, 0, none⟩)] w fun e w' => e = .returned (.agg (stC s.x)) ∧ Below w.heap.size w w' := by
  have hB : Below w.heap.size w (w.alloc (.cells #[.int .u8 0, .int .u8 0, .int .u8 0, .int .u8 0, .int .u8 0, .int .i64 0, .bool false, .bool false, .bool false, .int .i64 0, .int .i64 0, .int .i64 0] 68)) := (Below.refl _ _).alloc (Nat.le_refl _) _
  have c70 := h.cells.2.2.1
  have H := Lib.hid (h.keep hB)
  have HB := Lib.hid hB
  have HL := Lib.hid (Blk.new w 68 #[.int .u8 0, .int .u8 0, .int .u8 0, .int .u8 0, .int .u8 0, .int .i64 0, .bool false, .bool false, .bool false, .int .i64 0, .int .i64 0, .int .i64 0])
  have c7 := H.out.cells.2.2.1
  obtain ⟨left, hleft⟩ : ∃ l, 3072 - (s.x.tm.gone : Int) = l := ⟨_, rfl⟩
  have es : stC s.x = #[.int .u8 s.x.buf, .int .u8 s.x.tm.r, .int .u8 s.x.tm.c, .int .u8 s.x.q.d, .int .u8 s.x.pt.l, .int .i64 left, .bool s.x.tm.on, .bool s.x.q.due, .bool s.x.ro, .int .i64 s.x.tv, .int .i64 s.x.tc, .int .i64 s.x.tp] := by unfold stC; rw [hleft]
  have ES := Lib.hid es
  clear hB es hleft h
  go_enter Tryz.func29, Tryz.ntmps29
  go_wp2_with fail
  refine (hstatus_any H.out.pg).mono ?_
  rw [ES.out]
  rintro e w1 ⟨rfl, b1⟩
  have B1 := Lib.hid (HB.out.trans (b1.mono HB.out.size))
  have HL1 := Lib.hid (HL.out.below b1 HL.out.lt)
  clear b1 c7 c70
  have e0 : w1.cell? ⟨w.heap.size, 0, none⟩ = some (.int .u8 0) := HL1.out.cell 0
  have f0 := HL1.out.frozen 0
  have e1 : w1.cell? ⟨w.heap.size, 1, none⟩ = some (.int .u8 0) := HL1.out.cell 1
  have f1 := HL1.out.frozen 1
  have e2 : w1.cell? ⟨w.heap.size, 2, none⟩ = some (.int .u8 0) := HL1.out.cell 2
  have f2 := HL1.out.frozen 2
  have e3 : w1.cell? ⟨w.heap.size, 3, none⟩ = some (.int .u8 0) := HL1.out.cell 3
  have f3 := HL1.out.frozen 3
  have e4 : w1.cell? ⟨w.heap.size, 4, none⟩ = some (.int .u8 0) := HL1.out.cell 4
  have f4 := HL1.out.frozen 4
  have e5 : w1.cell? ⟨w.heap.size, 5, none⟩ = some (.int .i64 0) := HL1.out.cell 5
  have f5 := HL1.out.frozen 5
  have e6 : w1.cell? ⟨w.heap.size, 6, none⟩ = some (.bool false) := HL1.out.cell 6
  have f6 := HL1.out.frozen 6
  have e7 : w1.cell? ⟨w.heap.size, 7, none⟩ = some (.bool false) := HL1.out.cell 7
  have f7 := HL1.out.frozen 7
  have e8 : w1.cell? ⟨w.heap.size, 8, none⟩ = some (.bool false) := HL1.out.cell 8
  have f8 := HL1.out.frozen 8
  have e9 : w1.cell? ⟨w.heap.size, 9, none⟩ = some (.int .i64 0) := HL1.out.cell 9
  have f9 := HL1.out.frozen 9
  have e10 : w1.cell? ⟨w.heap.size, 10, none⟩ = some (.int .i64 0) := HL1.out.cell 10
  have f10 := HL1.out.frozen 10
  have e11 : w1.cell? ⟨w.heap.size, 11, none⟩ = some (.int .i64 0) := HL1.out.cell 11
  have f11 := HL1.out.frozen 11
  go_wp2_with fail
  have NB := ((((((((((((HL1.out.set_ 0 (.int .u8 s.x.buf)).set_ 1 (.int .u8 s.x.tm.r)).set_ 2 (.int .u8 s.x.tm.c)).set_ 3 (.int .u8 s.x.q.d)).set_ 4 (.int .u8 s.x.pt.l)).set_ 5 (.int .i64 left)).set_ 6 (.bool s.x.tm.on)).set_ 7 (.bool s.x.q.due)).set_ 8 (.bool s.x.ro)).set_ 9 (.int .i64 s.x.tv)).set_ 10 (.int .i64 s.x.tc)).set_ 11 (.int .i64 s.x.tp))
  have KB := (((((((((((((Kp.refl [w.heap.size] w1).setCell (p := ⟨w.heap.size, 0, none⟩) (.inl (by simp)) (.int .u8 s.x.buf)).setCell (p := ⟨w.heap.size, 1, none⟩) (.inl (by simp)) (.int .u8 s.x.tm.r)).setCell (p := ⟨w.heap.size, 2, none⟩) (.inl (by simp)) (.int .u8 s.x.tm.c)).setCell (p := ⟨w.heap.size, 3, none⟩) (.inl (by simp)) (.int .u8 s.x.q.d)).setCell (p := ⟨w.heap.size, 4, none⟩) (.inl (by simp)) (.int .u8 s.x.pt.l)).setCell (p := ⟨w.heap.size, 5, none⟩) (.inl (by simp)) (.int .i64 left)).setCell (p := ⟨w.heap.size, 6, none⟩) (.inl (by simp)) (.bool s.x.tm.on)).setCell (p := ⟨w.heap.size, 7, none⟩) (.inl (by simp)) (.bool s.x.q.due)).setCell (p := ⟨w.heap.size, 8, none⟩) (.inl (by simp)) (.bool s.x.ro)).setCell (p := ⟨w.heap.size, 9, none⟩) (.inl (by simp)) (.int .i64 s.x.tv)).setCell (p := ⟨w.heap.size, 10, none⟩) (.inl (by simp)) (.int .i64 s.x.tc)).setCell (p := ⟨w.heap.size, 11, none⟩) (.inl (by simp)) (.int .i64 s.x.tp))
  clear e0 f0 e1 f1 e2 f2 e3 f3 e4 f4 e5 f5 e6 f6 e7 f7 e8 f8 e9 f9 e10 f10 e11 f11
  simp only [List.setIfInBounds_toArray, List.set_cons_zero, List.set_cons_succ] at NB
  generalize World.setCell (World.setCell _ _ _) _ _ = wz at *
  have KZ := Lib.hid KB
  have z0 : wz.cell? ⟨w.heap.size, 0, none⟩ = some (.int .u8 s.x.buf) := NB.cell 0
  have z1 : wz.cell? ⟨w.heap.size, 1, none⟩ = some (.int .u8 s.x.tm.r) := NB.cell 1
  have z2 : wz.cell? ⟨w.heap.size, 2, none⟩ = some (.int .u8 s.x.tm.c) := NB.cell 2
  have z3 : wz.cell? ⟨w.heap.size, 3, none⟩ = some (.int .u8 s.x.q.d) := NB.cell 3
  have z4 : wz.cell? ⟨w.heap.size, 4, none⟩ = some (.int .u8 s.x.pt.l) := NB.cell 4
  have z5 : wz.cell? ⟨w.heap.size, 5, none⟩ = some (.int .i64 left) := NB.cell 5
  have z6 : wz.cell? ⟨w.heap.size, 6, none⟩ = some (.bool s.x.tm.on) := NB.cell 6
  have z7 : wz.cell? ⟨w.heap.size, 7, none⟩ = some (.bool s.x.q.due) := NB.cell 7
  have z8 : wz.cell? ⟨w.heap.size, 8, none⟩ = some (.bool s.x.ro) := NB.cell 8
  have z9 : wz.cell? ⟨w.heap.size, 9, none⟩ = some (.int .i64 s.x.tv) := NB.cell 9
  have z10 : wz.cell? ⟨w.heap.size, 10, none⟩ = some (.int .i64 s.x.tc) := NB.cell 10
  have z11 : wz.cell? ⟨w.heap.size, 11, none⟩ = some (.int .i64 s.x.tp) := NB.cell 11
  clear NB KB
  try go_wp2_with fail
  refine bodyPost_ret (v := .agg (stC s.x)) (by rw [ES.out]; simp [results, Tryz.results29, go_sem, z0, z1, z2, z3, z4, z5, z6, z7, z8, z9, z10, z11]) rfl ?_
  exact ⟨rfl, KZ.out.onto B1.out B1.out.size (by simp)⟩
theorem st_ok : StOk g d P s := fun u h => bstatus_any h
end
end Go.Proofs.YtleofglnlfpoeaaGreat
