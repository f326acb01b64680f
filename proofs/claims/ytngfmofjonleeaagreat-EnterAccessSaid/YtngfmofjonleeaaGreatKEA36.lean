/-
  Texts of these proofs, one behind the other: Bus8, Bus9, Bus10.
-/
import Derived.Test.YtngfmofjonleeaaGreatKEA33
import Derived.Test.YtngfmofjonleeaaGreatKEA35
import Derived.Test.YtngfmofjonleeaaGreatKEA21
namespace Go.Proofs.YtngfmofjonleeaaGreat
open Go.RowKit
set_option linter.unusedVariables false
set_option linter.unusedSimpArgs false
set_option maxRecDepth 100000
/-- What was told, access by access and field by field. -/
def accF (l : List Acc) (i j : Nat) : Value := ((accC (l.getD i ⟨0, 0, 0, false, 0⟩))[j]?).getD undef
theorem accL_at (l : List Acc) (q : Nat) (h : q < l.length * 5) : (accL l)[q]? = some (accF l (q / 5) (q % 5)) := by
  induction l generalizing q with
  | nil => simp at h
  | cons a l ih =>
    have e : accL (a :: l) = accC a ++ accL l := by simp [accL]
    rw [e]
    have hl : (accC a).length = 5 := rfl
    by_cases hq : q < 5
    · rw [List.getElem?_append_left (by rw [hl]; exact hq)]
      have h1 : q / 5 = 0 := by omega
      have h2 : q % 5 = q := by omega
      rw [h1, h2]
      unfold accF
      show (accC a)[q]? = some (((accC a)[q]?).getD undef)
      rw [List.getElem?_eq_getElem (by rw [hl]; exact hq)]
      rfl
    · rw [List.getElem?_append_right (by rw [hl]; omega), hl, ih (q - 5) (by simp only [List.length_cons] at h; omega)]
      have h1 : q / 5 = (q - 5) / 5 + 1 := by omega
      have h2 : q % 5 = (q - 5) % 5 := by omega
      rw [h1, h2]
      rfl
theorem accL_cells (l : List Acc) : accL l = cellsOf_ 5 (accF l) l.length := by
  apply List.ext_getElem?
  intro q
  by_cases h : q < l.length * 5
  · rw [accL_at l q h, cellsOf_at 5 _ _ q h]
  · rw [List.getElem?_eq_none (by rw [accL_len]; omega), List.getElem?_eq_none (by rw [cellsOf_len]; omega)]
theorem accF_one (l : List Acc) (i j : Nat) (hj : j < 5) : (accF l i j).oneCell' = true := by
  unfold accF accC
  rcases j with _ | _ | _ | _ | _ | j <;> first | rfl | omega
theorem aclone_any {w : World} {A : Option Addr} {n c : Nat} {f : Nat → Nat → Value} (hA : A = none → n = 0 ∧ c = 0) (R : FRow w 5 A n f) (h1 : ∀ i j, i < n → j < 5 → (f i j).oneCell' = true) (hn : n ≤ 1000000) :
    Calls Tryz.prog 44 #[.slice A n c] w fun e w' => ∃ A' cap, e = .returned (.slice A' n cap) ∧ n ≤ cap ∧ cap ≤ maxLen ∧ FRow w' 5 A' n f ∧ Typed w' A' 129 ∧ (A' = none → n = 0 ∧ cap = 0) ∧ Below w.heap.size w w' := by
  cases A with
  | none =>
    obtain ⟨rfl, rfl⟩ := hA rfl
    have hnil := fun W => Lib.run_eql_slice_nil (P := Tryz.prog) W 52 129 none 0 0 0 0 Tryz.underlying52
    clear R hA h1
    go_enter Tryz.func44, Tryz.ntmps44
    go_wp2
    go_ret
    exact ⟨none, 0, rfl, Nat.le_refl _, by unfold maxLen; omega, fun i hi => absurd hi (by omega), Typed.none, by simp, Below.refl _ _⟩
  | some ad =>
    have hnil := fun W => Lib.run_eql_slice_nil (P := Tryz.prog) W 52 129 (some ad) n c 0 0 Tryz.underlying52
    obtain ⟨A, cap, w', hrun, h1, h2, h3, h4, h5, h6⟩ := clone_frow (P := Tryz.prog) (ty := 52) (c := c) Tryz.underlying52 acc_info rfl (by omega) h1 (by omega) (by unfold maxLen; omega) R
    have H3 := Lib.hid h3
    have H5 := Lib.hid h5
    clear h3 h5 R hA
    go_enter Tryz.func44, Tryz.ntmps44
    go_wp2_with (at_builtin; refine wpList_append_run rfl (.tmp 5) (.tmp 6) 52 rfl rfl rfl hrun ?_)
    go_ret
    exact ⟨A, cap, rfl, h1, h2, H3.out, h4, H5.out, h6⟩
def TrcR (l : List Acc) (w : World) (e : Ending) (w' : World) : Prop := ∃ A cap, e = .returned (.slice A l.length cap) ∧ l.length ≤ cap ∧ cap ≤ maxLen ∧ FRow w' 5 A l.length (accF l) ∧ Typed w' A 129 ∧ (A = none → l.length = 0 ∧ cap = 0) ∧ Below w.heap.size w w'
section
variable {w : World} {g : Nat} {d : Hd} {Q : Bp} {s : Bs}
theorem btrace_any (h : BU w g d Q s) (hn : s.tl.length ≤ 1000000) : Calls Tryz.prog 14 #[.pointer (some ⟨g, 0, none⟩)] w (TrcR s.tl w) := by
  have c10 := h.cells.2.2.2.2.2
  have ho := h.tr
  rw [accL_cells] at ho
  obtain ⟨A, cap, hv, h1, h2, h3, h4, h5⟩ := own_frow (by omega) ho
  rw [hv] at c10
  have CL := Lib.hid (aclone_any (c := cap) h5 h3 (fun i j _ hj => accF_one _ i j hj) hn)
  clear h ho hv h1 h2 h3 h4 h5
  obtain ⟨n, hnn⟩ : ∃ n, s.tl.length = n := ⟨_, rfl⟩
  have HN := Lib.hid hnn
  rw [hnn] at c10 CL
  clear hnn
  go_enter Tryz.func14, Tryz.ntmps14
  go_wp2_with fail
  refine CL.out.mono ?_
  rintro e w1 ⟨A', cap', rfl, p1, p2, p3, p4, p5, p6⟩
  have R : Hid (TrcR s.tl w (.returned (.slice A' n cap')) w1) := Lib.hid (by unfold TrcR; rw [HN.out]; exact ⟨A', cap', rfl, p1, p2, p3, p4, p5, p6⟩)
  clear p1 p2 p3 p4 p5 p6
  go_wp2_with fail
  go_ret
  exact R.out
end
section
variable (w : World)
end
end Go.Proofs.YtngfmofjonleeaaGreat
namespace Go.Proofs.YtngfmofjonleeaaGreat
open Go.RowKit
set_option linter.unusedVariables false
set_option linter.unusedSimpArgs false
set_option maxRecDepth 100000
/-- A bus that was made since. -/
structure BT (B : Nat) (W w : World) (g : Nat) (d : Hd) (Q : Bp) (s : Bs) : Prop where
  u : BU w g d Q s
  bw : Below B W w
  sz : B ≤ w.heap.size
  lo : ∀ y ∈ bL g Q, B ≤ y
section
variable {B : Nat} {W w w' : World} {g : Nat} {d : Hd} {Q : Bp} {s s' : Bs}
theorem BT.on (h : BT B W w g d Q s) (b : Below w.heap.size w w') : BT B W w' g d Q s := ⟨h.u.keep b, h.bw.trans (b.mono h.sz), Nat.le_trans h.sz b.size, h.lo⟩
theorem BT.kp0 (h : BT B W w g d Q s) (k : Kp [] w w') : BT B W w' g d Q s := ⟨h.u.kp0 k, k.onto h.bw h.sz (by simp), Nat.le_trans h.sz k.size, h.lo⟩
/-- A bus that is made on a page that was made since. -/
theorem BT.new {p : Nat} {b : Hb} {x : Hp} {rn : Nat} {rz : Nat → Int} {bu : Int} {e : Ending} (h1 : Below B W w) (h2 : B ≤ w.heap.size) (hp : B ≤ p ∧ B ≤ b.v ∧ B ≤ b.c ∧ B ≤ b.p) (r : BnR p d b x rn rz bu w e w') :
    ∃ g Q rv, e = .returned (.pointer (some ⟨g, 0, none⟩)) ∧ BT B W w' g d Q (Bs.new rv rn rz x bu) ∧ Below w.heap.size w w' ∧ w.heap.size ≤ g := by
  obtain ⟨g, m, rv, e1, hg, hm, hb, k⟩ := r
  refine ⟨g, _, rv, e1, ⟨hb, h1.trans (k.mono h2), Nat.le_trans h2 k.size, fun y hy => ?_⟩, k, hg⟩
  rcases mem_bL.1 hy with rfl | rfl | e | rfl | rfl | rfl | rfl | e
  · exact Nat.le_trans h2 hg
  · exact Nat.le_trans h2 hm
  · cases e
  · exact hp.1
  · exact hp.2.1
  · exact hp.2.2.1
  · exact hp.2.2.2
  · cases e
end
end Go.Proofs.YtngfmofjonleeaaGreat
namespace Go.Proofs.YtngfmofjonleeaaGreat
open Go.RowKit
set_option linter.unusedVariables false
set_option linter.unusedSimpArgs false
set_option maxRecDepth 100000
theorem Hp.lim_mono {x : Hp} {n m : Nat} (h : x.lim n) (hm : n ≤ m) : x.lim m := ⟨Nat.le_trans h.1 hm, Nat.le_trans h.2.1 hm, Nat.le_trans h.2.2 hm⟩
theorem Hp.lim_rd {d : Hd} {x : Hp} {k r : Int} {n : Nat} (h : x.lim n) : (x.rd d k r).lim (n + 1) := by
  have h' : x.lim (n + 1) := Hp.lim_mono h (by omega)
  obtain ⟨h1, h2, h3⟩ := h
  obtain ⟨g1, g2, g3⟩ := h'
  unfold Hp.rd
  split
  · exact ⟨by show x.tv + 1 ≤ n + 1; omega, g2, g3⟩
  split
  · exact ⟨g1, by show x.tc + 1 ≤ n + 1; omega, g3⟩
  split
  · exact ⟨g1, g2, g3⟩
  split
  · refine ⟨g1, g2, ?_⟩
    show (if x.pt.takes then x.tp + 1 else x.tp) ≤ n + 1
    split <;> omega
  · exact ⟨g1, g2, g3⟩
theorem Hp.lim_wr {x : Hp} {k r u : Int} {n : Nat} (h : x.lim n) : (x.wr k r u).lim n := by
  unfold Hp.wr
  split
  · exact h
  split
  · exact h
  split
  · exact h
  split
  · exact h
  · exact h
/-- How far a bus has gone, at most, by so many accesses. -/
def Bs.room (s : Bs) (k : Nat) : Prop := s.now ≤ 24 * (k : Int) ∧ s.cyc ≤ 2 * (k : Int) ∧ s.x.lim k ∧ s.tl.length ≤ k
theorem room_new {rv : Value} {rn : Nat} {rz : Nat → Int} {b : Int} : (Bs.new rv rn rz Hp.new b).room 0 :=
  ⟨Int.le_refl 0, Int.le_refl 0, ⟨Nat.le_refl 0, Nat.le_refl 0, Nat.le_refl 0⟩, Nat.le_refl 0⟩
section
variable {s : Bs} {d : Hd} {a v kd : Int} {k : Nat}
theorem beg_room (h : s.room k) : (s.beg d a).now ≤ 24 * ((k + 1 : Nat) : Int) ∧ (s.beg d a).cyc ≤ 2 * ((k + 1 : Nat) : Int) ∧ (s.beg d a).x.lim k := by
  obtain ⟨h1, h2, h3, h4⟩ := h
  have l1 := lenI_bd s.fast (extraB a)
  have l2 := oneI_bd (extraB a)
  refine ⟨?_, ?_, Hp.lim_to h3⟩
  · show s.now + lenI s.fast (extraB a) ≤ _; omega
  · show s.cyc + (1 + oneI (extraB a)) ≤ _; omega
theorem anS_eq (s : Bs) (d : Hd) (a : Int) : (s.anS d a).now = s.now ∧ (s.anS d a).cyc = s.cyc ∧ (s.anS d a).fast = s.fast ∧ (s.anS d a).asked = s.asked ∧ (s.anS d a).next = s.next ∧ (s.anS d a).left = s.left ∧ (s.anS d a).f = s.f ∧ (s.anS d a).rn = s.rn ∧ (s.anS d a).rz = s.rz ∧ (s.anS d a).over = s.over := by
  unfold Bs.anS; split <;> exact ⟨rfl, rfl, rfl, rfl, rfl, rfl, rfl, rfl, rfl, rfl⟩
theorem chS_eq (s : Bs) (a v : Int) : (s.chS a v).now = s.now ∧ (s.chS a v).cyc = s.cyc ∧ (s.chS a v).fast = s.fast ∧ (s.chS a v).asked = s.asked ∧ (s.chS a v).next = s.next ∧ (s.chS a v).left = s.left ∧ (s.chS a v).rn = s.rn ∧ (s.chS a v).rz = s.rz ∧ (s.chS a v).over = s.over := by
  unfold Bs.chS; (repeat' split) <;> exact ⟨rfl, rfl, rfl, rfl, rfl, rfl, rfl, rfl, rfl⟩
theorem anS_lim (h : s.x.lim k) : (s.anS d a).x.lim (k + 1) := by
  unfold Bs.anS; split
  · exact Hp.lim_rd h
  · exact Hp.lim_mono h (by omega)
theorem chS_lim (h : s.x.lim k) : (s.chS a v).x.lim k := by
  unfold Bs.chS; split
  · exact Hp.lim_wr h
  split
  · exact h
  · exact h
theorem rdS_room (h : s.room k) : (s.rdS d a kd).room (k + 1) := by
  obtain ⟨b1, b2, b3⟩ := beg_room (d := d) (a := a) h
  obtain ⟨e1, e2, _⟩ := anS_eq (s.beg d a) d a
  refine ⟨?_, ?_, anS_lim b3, ?_⟩
  · show ((s.beg d a).anS d a).now ≤ _; rw [e1]; exact b1
  · show ((s.beg d a).anS d a).cyc ≤ _; rw [e2]; exact b2
  · show (s.tl ++ [_]).length ≤ _; rw [List.length_append]; have := h.2.2.2; simp; omega
theorem wrS_room (h : s.room k) : (s.wrS d a v kd).room (k + 1) := by
  obtain ⟨b1, b2, b3⟩ := beg_room (d := d) (a := a) h
  obtain ⟨e1, e2, _⟩ := chS_eq (s.beg d a) a v
  refine ⟨?_, ?_, Hp.lim_mono (chS_lim b3) (by omega), ?_⟩
  · show ((s.beg d a).chS a v).now ≤ _; rw [e1]; exact b1
  · show ((s.beg d a).chS a v).cyc ≤ _; rw [e2]; exact b2
  · show (s.tl ++ [_]).length ≤ _; rw [List.length_append]; have := h.2.2.2; simp; omega
theorem room_mono {m : Nat} (h : s.room k) (hm : k ≤ m) : s.room m := by
  obtain ⟨h1, h2, h3, h4⟩ := h
  exact ⟨by omega, by omega, Hp.lim_mono h3 hm, by omega⟩
end
theorem ram_where (a : Int) (a0 : 0 ≤ a) (h : whereI a = 1) : 2031616 ≤ a % 2097152 ∧ a % 2097152 < 2064384 := by
  have h1 := partAt_in (a % 2097152) (by omega) (by omega)
  have h2 : partAt (a % 2097152) = 2 := by
    have hl := partAt_lt (a % 2097152)
    unfold whereI at h
    rcases below11 _ hl with e | e | e | e | e | e | e | e | e | e | e <;> rw [e] at h ⊢ <;> simp [kindN] at h
  rw [h2] at h1
  exact h1
theorem ram_bank (a : Int) (a0 : 0 ≤ a) (h : whereI a = 1) : bankI a ≠ 255 := by
  have := ram_where a a0 h
  unfold bankI
  omega
end Go.Proofs.YtngfmofjonleeaaGreat
