/-
  Noise: New, State, Left, Level, Go, Set, Clone, at any place; and nil.
-/
import Derived.Test.YtnelcbbjnpaodaaNoi6
namespace Go.Proofs.Ytnelcbbjnpaodaa
open Go.RowKit
set_option linter.unusedVariables false
set_option linter.unusedSimpArgs false
set_option maxRecDepth 100000
section
variable {w : World} {g : Nat} {T : TypeId} {cs : Array Value} {o : Nat} {x : Nz}
theorem nstate_any (h : NZ w g T cs o x) :
    Calls Try.prog 45 #[.pointer (some ⟨g, o, none⟩)] w fun e w' => e = .returned (.int .u32 x.st) ∧ w = w' := by
  obtain ⟨c0, c1, c2⟩ := h.cells
  obtain ⟨⟨k0, k1⟩, _, _⟩ := h.2.2
  have m1 : max (x.st : Int) 1 = (x.st : Int) := by omega
  clear h
  go_enter Try.func45, Try.ntmps45
  go_wp2
  go_ret
  exact ⟨rfl, rfl⟩
theorem nleft_any (h : NZ w g T cs o x) :
    Calls Try.prog 44 #[.pointer (some ⟨g, o, none⟩)] w fun e w' => e = .returned (.int .i64 x.left) ∧ w = w' := by
  obtain ⟨c0, c1, c2⟩ := h.cells
  obtain ⟨_, ⟨k0, k1⟩, _⟩ := h.2.2
  have j1 : ((x.left : Int) == 0) = false := by
    have : ¬ (x.left : Int) = 0 := by omega
    simpa using this
  clear h
  go_enter Try.func44, Try.ntmps44
  go_wp2
  go_ret
  exact ⟨rfl, rfl⟩
def lvN (st : Nat) : Int := if st % 2 = 1 then 31 else 0
theorem nlevel_any (h : NZ w g T cs o x) :
    Calls Try.prog 38 #[.pointer (some ⟨g, o, none⟩)] w fun e w' => e = .returned (.int .u8 (lvN x.st)) ∧ w = w' := by
  have H := Lib.hid h
  obtain ⟨⟨k0, k1⟩, _, _⟩ := h.2.2
  clear h
  rcases Nat.mod_two_eq_zero_or_one x.st with h1 | h1
  · have e1 : (x.st : Int) % 2 = 0 := by omega
    have e2 : lvN x.st = 0 := by unfold lvN; rw [if_neg (by omega)]
    rw [e2]
    go_enter Try.func38, Try.ntmps38
    go_wp2_with (go_at_call 45; refine (nstate_any H.out).mono ?_; rintro e w' ⟨rfl, rfl⟩)
    go_ret
    exact ⟨rfl, rfl⟩
  · have e1 : (x.st : Int) % 2 = 1 := by omega
    have e2 : lvN x.st = 31 := by unfold lvN; rw [if_pos h1]
    rw [e2]
    go_enter Try.func38, Try.ntmps38
    go_wp2_with (go_at_call 45; refine (nstate_any H.out).mono ?_; rintro e w' ⟨rfl, rfl⟩)
    go_ret
    exact ⟨rfl, rfl⟩
theorem nset_any (h : NZ w g T cs o x) (fr : Int) (h0 : 0 ≤ fr) (h1 : fr ≤ 255) :
    Calls Try.prog 37 #[.pointer (some ⟨g, o, none⟩), .int .u8 fr] w (NzR (.tuple #[]) g T cs o (x.set fr) w) := by
  obtain ⟨c0, c1, c2⟩ := h.cells
  have f1 := h.1.frozen (o + 1)
  have f2 := h.1.frozen (o + 2)
  have H := Lib.hid h
  obtain ⟨p1, p2⟩ := h.put (nzPut_left h.2.1 x.left) (x' := x) h.2.2
  obtain ⟨q1, q2⟩ := p1.put (nzPut_fr h.2.1 fr) (x' := x.set fr) (Nz.set_ok h.2.2 h0 h1)
  have Q1 := Lib.hid q1
  have Q2 := Lib.hid (p2.trans q2 (by simp))
  clear h p1 p2 q1 q2
  go_enter Try.func37, Try.ntmps37
  go_wp2_with (go_at_call 44; refine (nleft_any H.out).mono ?_; rintro e w' ⟨rfl, rfl⟩)
  first | go_end0 | refine bodyPost_ret (results_none rfl _ _ _) rfl ?_
  exact ⟨rfl, Q1.out, Q2.out⟩
set_option maxHeartbeats 4000000 in
theorem ngo_any (h : NZ w g T cs o x) (n : Int) (hn : n ≤ 9223372036854775807) (hn0 : -9223372036854775808 ≤ n) :
    Calls Try.prog 39 #[.pointer (some ⟨g, o, none⟩), .int .i64 n] w (NzR (.tuple #[]) g T cs o (x.go n.toNat) w) := by
  obtain ⟨c0, c1, c2⟩ := h.cells
  obtain ⟨⟨k0, k1⟩, ⟨l0, l1⟩, r0, r1⟩ := h.2.2
  obtain ⟨p0, p1⟩ := perN_bd x.fr
  have H := Lib.hid h
  have sle := dnS_le (N := n.toNat) (p := perN x.fr) l0
  have lle := dnL_le (N := n.toNat) l1 p1
  have gx : x.go n.toNat = ⟨it nx (dnS n.toNat x.left (perN x.fr)) x.st, dnL n.toNat x.left (perN x.fr), x.fr⟩ := rfl
  have gok := Nz.go_ok h.2.2 n.toNat
  rw [gx] at gok ⊢
  have dn := down_any n x.left (perN x.fr) w hn l0 (by omega) p0 (by omega)
  have hdn : Hid (∀ w, Calls Try.prog 40 #[.int .i64 n, .int .i64 x.left, .int .i64 (perN x.fr)] w fun e w' => e = .returned (.tuple #[.int .i64 (dnS n.toNat x.left (perN x.fr) : Nat), .int .i64 (dnL n.toNat x.left (perN x.fr) : Nat)]) ∧ Below w.heap.size w w') := Lib.hid fun w => down_any n x.left (perN x.fr) w hn l0 (by omega) p0 (by omega)
  have hsn : dnS n.toNat x.left (perN x.fr) ≤ 9223372036854775807 := by omega
  generalize dnS n.toNat x.left (perN x.fr) = S at *
  generalize dnL n.toNat x.left (perN x.fr) = L at *
  have GOK := Lib.hid gok
  clear h gx gok dn c0 c1
  go_enter Try.func39, Try.ntmps39
  go_wp2_with fail
  refine rg_begin (S := fun w' => w'.cell? ⟨g, o + 2, none⟩ = some (.int .u8 x.fr)) 14 #[false, false, false, false, false, false, false, false, false, false, false, false, false, false] (by kernel_rfl) (by kernel_rfl) (by kernel_rfl) ?_ (fun hHeld => ?_)
  · exact c2
  refine rg_take (i := 0) (d := some 9) (l := #[true, false, false, false, false, false, false, false, false, false, false, false, false, false]) (fuel := 13) (v := ?_) rfl (by kernel_rfl) (by kernel_rfl) (by kernel_rfl) (by kernel_rfl) (by kernel_rfl) (fun _ _ _ h => h) (by kernel_rfl) ?_ (by assumption) ?_
  rotate_left 1
  · (intro wS hSw; (try dsimp only at hSw); go_simp; try with_reducible rfl)
  try simp only [Act.put, List.setIfInBounds_toArray, List.set_cons_zero, List.set_cons_succ]
  refine rg_take (i := 1) (d := some 10) (l := #[true, true, false, false, false, false, false, false, false, false, false, false, false, false]) (fuel := 12) (v := ?_) rfl (by kernel_rfl) (by kernel_rfl) (by kernel_rfl) (by kernel_rfl) (by kernel_rfl) (fun _ _ _ h => h) (by kernel_rfl) ?_ (by assumption) ?_
  rotate_left 1
  · (intro wS hSw; (try dsimp only at hSw); go_simp; try with_reducible rfl)
  try simp only [Act.put, List.setIfInBounds_toArray, List.set_cons_zero, List.set_cons_succ]
  refine rg_take (i := 3) (d := some 12) (l := #[true, true, false, true, false, false, false, false, false, false, false, false, false, false]) (fuel := 11) (v := ?_) rfl (by kernel_rfl) (by kernel_rfl) (by kernel_rfl) (by kernel_rfl) (by kernel_rfl) (fun _ _ _ h => h) (by kernel_rfl) ?_ (by assumption) ?_
  rotate_left 1
  · (intro wS hSw; (try dsimp only at hSw); go_simp; try with_reducible rfl)
  try simp only [Act.put, List.setIfInBounds_toArray, List.set_cons_zero, List.set_cons_succ]
  refine rg_take (i := 4) (d := some 13) (l := #[true, true, false, true, true, false, false, false, false, false, false, false, false, false]) (fuel := 10) (v := ?_) rfl (by kernel_rfl) (by kernel_rfl) (by kernel_rfl) (by kernel_rfl) (by kernel_rfl) (fun _ _ _ h => h) (by kernel_rfl) ?_ (by assumption) ?_
  rotate_left 1
  · (intro wS hSw; (try dsimp only at hSw); go_simp; try with_reducible rfl)
  try simp only [Act.put, List.setIfInBounds_toArray, List.set_cons_zero, List.set_cons_succ]
  refine rg_take (i := 5) (d := some 14) (l := #[true, true, false, true, true, true, false, false, false, false, false, false, false, false]) (fuel := 9) (v := ?_) rfl (by kernel_rfl) (by kernel_rfl) (by kernel_rfl) (by kernel_rfl) (by kernel_rfl) (fun _ _ _ h => h) (by kernel_rfl) ?_ (by assumption) ?_
  rotate_left 1
  · (intro wS hSw; (try dsimp only at hSw); go_simp; try with_reducible rfl)
  try simp only [Act.put, List.setIfInBounds_toArray, List.set_cons_zero, List.set_cons_succ]
  refine rg_take (i := 6) (d := some 15) (l := #[true, true, false, true, true, true, true, false, false, false, false, false, false, false]) (fuel := 8) (v := ?_) rfl (by kernel_rfl) (by kernel_rfl) (by kernel_rfl) (by kernel_rfl) (by kernel_rfl) (fun _ _ _ h => h) (by kernel_rfl) ?_ (by assumption) ?_
  rotate_left 1
  · (intro wS hSw; (try dsimp only at hSw); go_simp; try with_reducible rfl)
  try simp only [Act.put, List.setIfInBounds_toArray, List.set_cons_zero, List.set_cons_succ]
  refine rg_next (i := 2) (l := #[true, true, true, true, true, true, true, false, false, false, false, false, false, false]) (fuel := 7) (by kernel_rfl) rfl (by kernel_rfl) (by kernel_rfl) (fun K hK => ?_)
  go_simp
  (go_at_call 44)
  refine (nleft_any (x := x) (by exact H.out)).mono ?_
  rintro e w1 ⟨rfl, rfl⟩
  first | (refine hK.out _ _ ?_ (fun hHeld => ?_)) | (go_wp2_with fail; refine hK.out _ _ ?_ (fun hHeld => ?_))
  · (try dsimp only); exact c2
  clear hK K
  try simp only [Act.put, List.setIfInBounds_toArray, List.set_cons_zero, List.set_cons_succ]
  refine rg_next (i := 7) (l := #[true, true, true, true, true, true, true, true, false, false, false, false, false, false]) (fuel := 6) (by kernel_rfl) rfl (by kernel_rfl) (by kernel_rfl) (fun K hK => ?_)
  go_simp
  (go_at_call 43)
  refine (period_any x.fr _ r0 r1).mono ?_
  rintro e w2 ⟨rfl, rfl⟩
  first | (refine hK.out _ _ ?_ (fun hHeld => ?_)) | (go_wp2_with fail; refine hK.out _ _ ?_ (fun hHeld => ?_))
  · (try dsimp only); exact c2
  clear hK K
  try simp only [Act.put, List.setIfInBounds_toArray, List.set_cons_zero, List.set_cons_succ]
  refine rg_next (i := 8) (l := #[true, true, true, true, true, true, true, true, true, false, false, false, false, false]) (fuel := 5) (by kernel_rfl) rfl (by kernel_rfl) (by kernel_rfl) (fun K hK => ?_)
  go_simp
  (go_at_call 40)
  refine (hdn.out _).mono ?_
  rintro e w3 ⟨rfl, b3⟩
  replace b3 : Below w.heap.size w w3 := (Below.refl _ _).drew.trans (b3.mono (Nat.le_refl _))
  have H3 := Lib.hid (H.out.keep b3 H.out.lt)
  have K3 : Hid (Kp [g] w w3) := Lib.hid (Kp.of_below b3)
  clear b3
  first | (refine hK.out _ _ ?_ (fun hHeld => ?_)) | (go_wp2_with fail; refine hK.out _ _ ?_ (fun hHeld => ?_))
  · (try dsimp only); exact H3.out.cells.2.2
  clear hK K
  try simp only [Act.put, List.setIfInBounds_toArray, List.set_cons_zero, List.set_cons_succ]
  refine rg_take (i := 9) (d := some 8) (l := #[true, true, true, true, true, true, true, true, true, true, false, false, false, false]) (fuel := 4) (v := ?_) rfl (by kernel_rfl) (by kernel_rfl) (by kernel_rfl) (by kernel_rfl) (by kernel_rfl) (fun _ _ _ h => h) (by kernel_rfl) ?_ (by assumption) ?_
  rotate_left 1
  · (intro wS hSw; (try dsimp only at hSw); go_simp; try with_reducible rfl)
  try simp only [Act.put, List.setIfInBounds_toArray, List.set_cons_zero, List.set_cons_succ]
  refine rg_take (i := 10) (d := some 18) (l := #[true, true, true, true, true, true, true, true, true, true, true, false, false, false]) (fuel := 3) (v := ?_) rfl (by kernel_rfl) (by kernel_rfl) (by kernel_rfl) (by kernel_rfl) (by kernel_rfl) (fun _ _ _ h => h) (by kernel_rfl) ?_ (by assumption) ?_
  rotate_left 1
  · (intro wS hSw; (try dsimp only at hSw); go_simp; try with_reducible rfl)
  try simp only [Act.put, List.setIfInBounds_toArray, List.set_cons_zero, List.set_cons_succ]
  refine rg_take (i := 11) (d := some 19) (l := #[true, true, true, true, true, true, true, true, true, true, true, true, false, false]) (fuel := 2) (v := ?_) rfl (by kernel_rfl) (by kernel_rfl) (by kernel_rfl) (by kernel_rfl) (by kernel_rfl) (fun _ _ _ h => h) (by kernel_rfl) ?_ (by assumption) ?_
  rotate_left 1
  · (intro wS hSw; (try dsimp only at hSw); go_simp; try with_reducible rfl)
  try simp only [Act.put, List.setIfInBounds_toArray, List.set_cons_zero, List.set_cons_succ]
  refine rg_take (i := 12) (d := some 4) (l := #[true, true, true, true, true, true, true, true, true, true, true, true, true, false]) (fuel := 1) (v := ?_) rfl (by kernel_rfl) (by kernel_rfl) (by kernel_rfl) (by kernel_rfl) (by kernel_rfl) (fun _ _ _ h => h) (by kernel_rfl) ?_ (by assumption) ?_
  rotate_left 1
  · (intro wS hSw; (try dsimp only at hSw); go_simp; try with_reducible rfl)
  try simp only [Act.put, List.setIfInBounds_toArray, List.set_cons_zero, List.set_cons_succ]
  refine rg_take (i := 13) (d := some 5) (l := #[true, true, true, true, true, true, true, true, true, true, true, true, true, true]) (fuel := 0) (v := ?_) rfl (by kernel_rfl) (by kernel_rfl) (by kernel_rfl) (by kernel_rfl) (by kernel_rfl) (fun _ _ _ h => h) (by kernel_rfl) ?_ (by assumption) ?_
  rotate_left 1
  · (intro wS hSw; (try dsimp only at hSw); go_simp; try with_reducible rfl)
  try simp only [Act.put, List.setIfInBounds_toArray, List.set_cons_zero, List.set_cons_succ]
  refine wpAnyH_done (by kernel_rfl) ?_ _
  clear hHeld
  go_wp2_with fail
  refine (nstate_any H3.out).mono ?_
  rintro e w' ⟨rfl, rfl⟩
  go_wp2_with fail
  refine (jump_any x.st S (by omega) (by omega) _).mono ?_
  rw [show jmp (S : Int) (x.st % 2 ^ 18) = it nx S x.st by unfold jmp; rw [if_pos (by omega), Nat.mod_eq_of_lt k1]; rfl]
  rintro e w4 ⟨rfl, b4⟩
  have h4 := H3.out.keep b4 H3.out.lt
  obtain ⟨d0, d1, d2⟩ := h4.cells
  have f0 := h4.1.frozen o
  have f1 := h4.1.frozen (o + 1)
  obtain ⟨q1, q2⟩ := h4.put (nzPut_st h4.2.1 (it nx S x.st)) (x' := ⟨it nx S x.st, x.left, x.fr⟩) ⟨GOK.out.1, h4.2.2.2⟩
  obtain ⟨u1, u2⟩ := q1.put (nzPut_left h4.2.1 L) (x' := ⟨it nx S x.st, L, x.fr⟩) GOK.out
  have U1 := Lib.hid u1
  have U2 := Lib.hid (((K3.out.trans (Kp.of_below (L := []) b4) (by simp)).trans q2 (by simp)).trans u2 (by simp))
  clear h4 q1 q2 u1 u2 b4
  go_wp2_with fail
  first | go_end0 | refine bodyPost_ret (results_none rfl _ _ _) rfl ?_
  exact ⟨rfl, U1.out, U2.out⟩
theorem NZ.new_ (hx : x.ok) (w : World) : NZ (w.alloc (.cells #[.int .u32 x.st, .int .i64 x.left, .int .u8 x.fr] 64)) w.heap.size 64 (Array.replicate 3 .nilFunc) 0 x := ⟨Blk.new w _ _, by decide, hx⟩
def NCloneR (x : Nz) (w : World) (e : Ending) (w' : World) : Prop :=
  e = .returned (.pointer (some ⟨w.heap.size, 0, none⟩)) ∧ NZ w' w.heap.size 64 (Array.replicate 3 .nilFunc) 0 x ∧ Below w.heap.size w w'
theorem nnew_any (fr : Int) (w : World) (h0 : 0 ≤ fr) (h1 : fr ≤ 255) : Calls Try.prog 33 #[.int .u8 fr] w (NCloneR (Nz.new fr) w) := by
  go_enter Try.func33, Try.ntmps33
  go_wp2_with (go_at_call 43; refine (period_any fr _ h0 h1).mono ?_; rintro e w' ⟨rfl, rfl⟩)
  go_ret
  exact ⟨rfl, NZ.new_ (Nz.new_ok h0 h1) w, (Below.refl _ _).alloc (Nat.le_refl _) _⟩
end
section
variable (w : World)
theorem nstate_nil : Calls Try.prog 45 #[.pointer none] w fun e w' => e = .returned (.int .u32 0) ∧ w = w' := by
  go_enter Try.func45, Try.ntmps45
  go_wp2
  go_ret
  exact ⟨rfl, rfl⟩
theorem nleft_nil : Calls Try.prog 44 #[.pointer none] w fun e w' => e = .returned (.int .i64 0) ∧ w = w' := by
  go_enter Try.func44, Try.ntmps44
  go_wp2
  go_ret
  exact ⟨rfl, rfl⟩
theorem nlevel_nil : Calls Try.prog 38 #[.pointer none] w fun e w' => e = .returned (.int .u8 0) ∧ w = w' := by
  go_enter Try.func38, Try.ntmps38
  go_wp2_with (go_at_call 45; refine (nstate_nil _).mono ?_; rintro e w' ⟨rfl, rfl⟩)
  go_ret
  exact ⟨rfl, rfl⟩
theorem nset_nil (b : Int) : Calls Try.prog 37 #[.pointer none, .int .u8 b] w fun e w' => e = .returned (.tuple #[]) ∧ w = w' := by
  go_enter Try.func37, Try.ntmps37
  go_wp2
  first | go_end0 | refine bodyPost_ret (results_none rfl _ _ _) rfl ?_
  exact ⟨rfl, rfl⟩
theorem ngo_nil (n : Int) : Calls Try.prog 39 #[.pointer none, .int .i64 n] w fun e w' => e = .returned (.tuple #[]) ∧ w = w' := by
  go_enter Try.func39, Try.ntmps39
  go_wp2
  first | go_end0 | refine bodyPost_ret (results_none rfl _ _ _) rfl ?_
  exact ⟨rfl, rfl⟩
end
end Go.Proofs.Ytnelcbbjnpaodaa
