/-
  Texts of these proofs, one behind the other: Scr23, Scr24, Scr25.
-/
import Derived.Test.YtnhnphifhkkboaaDoorKSW35
namespace Go.Proofs.YtnhnphifhkkboaaDoor
open Go.RowKit Go.Shelf
set_option linter.unusedVariables false
set_option linter.unusedSimpArgs false
set_option maxRecDepth 100000
theorem feedT_bad (k : Nat) (r : List ByteArray) (td : Td) (h : bytesA r = none ∨ r = []) : feedT k r td = (3, td) := by
  rcases h with h | rfl
  · cases r with
    | nil => rfl
    | cons y r => simp [feedT, h]
  · rfl
theorem feedT_ok (k : Nat) (r : List ByteArray) (td : Td) (ys : List Int) (hr : r ≠ []) (h : bytesA r = some ys) : feedT k r td = (0, if k = 0 then { td with vdc := td.vdc ++ ys } else if k = 1 then { td with vce := td.vce ++ ys } else { td with port := td.port ++ ys }) := by
  cases r with
  | nil => exact absurd rfl hr
  | cons y r => simp [feedT, h]
theorem SRow.tail1 {w : World} {A : Option Addr} {x : ByteArray} {xs : List ByteArray} {c : Nat} (h : SRow w A (x :: xs)) (hc : xs.length + 1 ≤ c) : SRow w (if c = 1 then A else A.map (·.add 1)) xs := fun i z hz => by
  obtain ⟨ad, e, hl, hx⟩ := h (i + 1) z (by simpa using hz)
  subst e
  have : 0 < xs.length := by
    have := (List.getElem?_eq_some_iff.1 hz).1; omega
  rw [if_neg (by omega)]
  refine ⟨ad.add 1, rfl, by rw [block_of_add]; exact hl, ?_⟩
  rw [add_of_add, show 1 + i = i + 1 by omega]
  exact hx
set_option maxHeartbeats 16000000 in
theorem rfeed0_any {B g : Nat} {td : Td} {vP vV vC vR vE : Value} {w : World} (h : RTdH B g td vP vV vC vR vE w) (hB : B ≤ w.heap.size) (hn : td.vdc.length ≤ 100000000000) (f : ByteArray) (hf0 : eqB f [114, 111, 109] = false) (hf1 : eqB f [118, 100, 99] = true) (rest : List ByteArray) (A : Option Addr) (c : Nat) (hc : rest.length + 1 ≤ c) (HS : SRow w A (f :: rest)) (hsz : ∀ x ∈ rest, x.size ≤ 1000000) (hlen : rest.length ≤ 1000000) :
    Calls Tryd.prog 100 #[.pointer (some ⟨g, 0, none⟩), .slice A (rest.length + 1) c] w fun e w' => RTakeR B g (rtdL g vP vV vC vR vE) (feedT 0 rest td) w e w' := by
  obtain ⟨ad, rfl, hcf⟩ := srow_one HS
  have y_0 : (f.toList == [114, 111, 109]) = false := hf0
  have y_1 : (f.toList == [118, 100, 99]) = true := hf1
  have HCF := Lib.hid (fun (W : World) (hb : Below w.heap.size w W) => show W.cell? ad = some (.string f) by
    obtain ⟨ad', e', hx⟩ := srow_one (HS.keep hb)
    injection e' with e'
    subst e'
    exact hx)
  have HBAD : Hid (∀ w', Below w.heap.size w w' → RTakeR B g (rtdL g vP vV vC vR vE) (3, td) w (.returned (.int .i64 3)) w') := Lib.hid fun w' hb => ⟨rfl, Kp.of_below hb, fun e => absurd e (by simp)⟩
  obtain ⟨n, hnn⟩ : ∃ n, rest.length + 1 = n := ⟨_, rfl⟩
  have n0 : 0 < n := by omega
  have n1 : 1 ≤ n := by omega
  have hn1 : n - 1 = rest.length := by omega
  rw [hnn] at hc ⊢
  have hsl := slice_tail (some ad) n c n1 hc
  obtain ⟨A1, hA1⟩ : ∃ A1, (if c = 1 then some ad else (some ad).map (·.add 1)) = A1 := ⟨_, rfl⟩
  have HSR := hA1 ▸ HS.tail1 (c := c) (by omega)
  rw [hA1, hn1] at hsl
  have hBy := fun (W : World) (hb : Below w.heap.size w W) => rbytes_any rest A1 (c - 1) (by omega) (HSR.keep hb) hsz hlen
  obtain ⟨rn, hrn⟩ : ∃ rn, rest.length = rn := ⟨_, rfl⟩
  obtain ⟨c1, hc1e⟩ : ∃ c1, c - 1 = c1 := ⟨_, rfl⟩
  rw [hrn, hc1e] at hsl hBy
  have hP1 := Lib.hid (feedT_bad 0 rest td)
  have hP2 := Lib.hid (fun ys => feedT_ok 0 rest td ys)
  have HYL := Lib.hid (fun ys (hy : bytesA rest = some ys) => And.intro (bytesA_len rest ys hy) (bytesA_by rest ys hy))
  obtain ⟨RR, hRR⟩ : ∃ RR, feedT 0 rest td = RR := ⟨_, rfl⟩
  rw [hRR] at hP1 hP2 ⊢
  have HH := Lib.hid h
  have HBY := Lib.hid hBy
  have HLN : Hid (rest.length ≤ 1000000) := Lib.hid hlen
  clear h HS HSR hsz hlen hnn hn1 n1 hA1 hrn hc1e hRR hBy hf0 hf1
  go_enter Tryd.func100, Tryd.ntmps100
  go_wp2_with fail
  refine (HBY.out _ (Below.refl _ _)).mono ?_
  rintro e w2 ⟨b2, ⟨hbad, rfl⟩ | ⟨ys, q, cq, hne, hys, rfl, own⟩⟩
  · have H3 : Hid (RTakeR B g (rtdL g vP vV vC vR vE) RR w (.returned (.int .i64 3)) w2) := Lib.hid (by rw [hP1.out hbad]; exact HBAD.out _ b2)
    clear b2 hbad
    go_wp2_with fail
    all_goals (go_ret; exact H3.out)
  · have hRok := hP2.out ys hne hys
    have hyl := HYL.out ys hys
    have h2 := HH.out.below b2
    have B2 : B ≤ w2.heap.size := Nat.le_trans hB b2.size
    have hne2 : ys ≠ [] := fun e => hne (List.length_eq_zero_iff.1 (by rw [← hyl.1, e]; rfl))
    obtain ⟨A2, cap, hv, _, _, R, _⟩ := row_bytes own hyl.2
    injection hv with hA2 _ hcap
    subst hA2
    subst hcap
    have hadd := by
      have hl := hyl.1
      have hl2 := HLN.out
      exact h2.addF0 (m' := cq) hne2 R B2 (by omega)
    obtain ⟨b, c5, w5, hrun, c10, z10, h6, k6, l6⟩ := hadd
    have c2 : w2.cell? ⟨g, 3, none⟩ = some vV := h2.blk.cell 3
    have c0k : w2.cell? ad = some (.string f) := HCF.out w2 b2
    have HW : Hid (RTakeR B g (rtdL g vP vV vC vR vE) RR w (.returned (.int .i64 0)) (w5.setCell ⟨g, 3, none⟩ (.slice (some ⟨b, 0, none⟩) (td.vdc.length + ys.length) c5))) := Lib.hid (by
      rw [hRok]
      exact ⟨rfl, (Kp.of_below b2).trans k6 (fun x hx => Or.inl hx), fun _ => ⟨_, _, _, _, _, h6, fun x hx => (l6 x hx).imp id (fun hh => Nat.le_trans b2.size hh)⟩⟩)
    obtain ⟨tn, htn⟩ : ∃ m, td.vdc.length + ys.length = m := ⟨_, rfl⟩
    rw [htn] at hrun HW
    obtain ⟨yn, hyn⟩ : ∃ m, ys.length = m := ⟨_, rfl⟩
    rw [hyn] at hrun ⊢
    clear hRok h2 h6 k6 l6 own b2 hne hys htn hyn hyl hne2 R
    go_wp2_with (at_builtin; refine wpList_append_run rfl (.tmp 86) (.tmp 87) 22 rfl rfl rfl hrun ?_)
    all_goals (go_ret; exact HW.out)
set_option maxHeartbeats 16000000 in
theorem rfeed1_any {B g : Nat} {td : Td} {vP vV vC vR vE : Value} {w : World} (h : RTdH B g td vP vV vC vR vE w) (hB : B ≤ w.heap.size) (hn : td.vce.length ≤ 100000000000) (f : ByteArray) (hf0 : eqB f [114, 111, 109] = false) (hf1 : eqB f [118, 100, 99] = false) (hf2 : eqB f [118, 99, 101] = true) (rest : List ByteArray) (A : Option Addr) (c : Nat) (hc : rest.length + 1 ≤ c) (HS : SRow w A (f :: rest)) (hsz : ∀ x ∈ rest, x.size ≤ 1000000) (hlen : rest.length ≤ 1000000) :
    Calls Tryd.prog 100 #[.pointer (some ⟨g, 0, none⟩), .slice A (rest.length + 1) c] w fun e w' => RTakeR B g (rtdL g vP vV vC vR vE) (feedT 1 rest td) w e w' := by
  obtain ⟨ad, rfl, hcf⟩ := srow_one HS
  have y_0 : (f.toList == [114, 111, 109]) = false := hf0
  have y_1 : (f.toList == [118, 100, 99]) = false := hf1
  have y_2 : (f.toList == [118, 99, 101]) = true := hf2
  have HCF := Lib.hid (fun (W : World) (hb : Below w.heap.size w W) => show W.cell? ad = some (.string f) by
    obtain ⟨ad', e', hx⟩ := srow_one (HS.keep hb)
    injection e' with e'
    subst e'
    exact hx)
  have HBAD : Hid (∀ w', Below w.heap.size w w' → RTakeR B g (rtdL g vP vV vC vR vE) (3, td) w (.returned (.int .i64 3)) w') := Lib.hid fun w' hb => ⟨rfl, Kp.of_below hb, fun e => absurd e (by simp)⟩
  obtain ⟨n, hnn⟩ : ∃ n, rest.length + 1 = n := ⟨_, rfl⟩
  have n0 : 0 < n := by omega
  have n1 : 1 ≤ n := by omega
  have hn1 : n - 1 = rest.length := by omega
  rw [hnn] at hc ⊢
  have hsl := slice_tail (some ad) n c n1 hc
  obtain ⟨A1, hA1⟩ : ∃ A1, (if c = 1 then some ad else (some ad).map (·.add 1)) = A1 := ⟨_, rfl⟩
  have HSR := hA1 ▸ HS.tail1 (c := c) (by omega)
  rw [hA1, hn1] at hsl
  have hBy := fun (W : World) (hb : Below w.heap.size w W) => rbytes_any rest A1 (c - 1) (by omega) (HSR.keep hb) hsz hlen
  obtain ⟨rn, hrn⟩ : ∃ rn, rest.length = rn := ⟨_, rfl⟩
  obtain ⟨c1, hc1e⟩ : ∃ c1, c - 1 = c1 := ⟨_, rfl⟩
  rw [hrn, hc1e] at hsl hBy
  have hP1 := Lib.hid (feedT_bad 1 rest td)
  have hP2 := Lib.hid (fun ys => feedT_ok 1 rest td ys)
  have HYL := Lib.hid (fun ys (hy : bytesA rest = some ys) => And.intro (bytesA_len rest ys hy) (bytesA_by rest ys hy))
  obtain ⟨RR, hRR⟩ : ∃ RR, feedT 1 rest td = RR := ⟨_, rfl⟩
  rw [hRR] at hP1 hP2 ⊢
  have HH := Lib.hid h
  have HBY := Lib.hid hBy
  have HLN : Hid (rest.length ≤ 1000000) := Lib.hid hlen
  clear h HS HSR hsz hlen hnn hn1 n1 hA1 hrn hc1e hRR hBy hf0 hf1 hf2
  go_enter Tryd.func100, Tryd.ntmps100
  go_wp2_with fail
  refine (HBY.out _ (Below.refl _ _)).mono ?_
  rintro e w2 ⟨b2, ⟨hbad, rfl⟩ | ⟨ys, q, cq, hne, hys, rfl, own⟩⟩
  · have H3 : Hid (RTakeR B g (rtdL g vP vV vC vR vE) RR w (.returned (.int .i64 3)) w2) := Lib.hid (by rw [hP1.out hbad]; exact HBAD.out _ b2)
    clear b2 hbad
    go_wp2_with fail
    all_goals (go_ret; exact H3.out)
  · have hRok := hP2.out ys hne hys
    have hyl := HYL.out ys hys
    have h2 := HH.out.below b2
    have B2 : B ≤ w2.heap.size := Nat.le_trans hB b2.size
    have hne2 : ys ≠ [] := fun e => hne (List.length_eq_zero_iff.1 (by rw [← hyl.1, e]; rfl))
    obtain ⟨A2, cap, hv, _, _, R, _⟩ := row_bytes own hyl.2
    injection hv with hA2 _ hcap
    subst hA2
    subst hcap
    have hadd := by
      have hl := hyl.1
      have hl2 := HLN.out
      exact h2.addF1 (m' := cq) hne2 R B2 (by omega)
    obtain ⟨b, c5, w5, hrun, c10, z10, h6, k6, l6⟩ := hadd
    have c2 : w2.cell? ⟨g, 4, none⟩ = some vC := h2.blk.cell 4
    have c0k : w2.cell? ad = some (.string f) := HCF.out w2 b2
    have HW : Hid (RTakeR B g (rtdL g vP vV vC vR vE) RR w (.returned (.int .i64 0)) (w5.setCell ⟨g, 4, none⟩ (.slice (some ⟨b, 0, none⟩) (td.vce.length + ys.length) c5))) := Lib.hid (by
      rw [hRok]
      exact ⟨rfl, (Kp.of_below b2).trans k6 (fun x hx => Or.inl hx), fun _ => ⟨_, _, _, _, _, h6, fun x hx => (l6 x hx).imp id (fun hh => Nat.le_trans b2.size hh)⟩⟩)
    obtain ⟨tn, htn⟩ : ∃ m, td.vce.length + ys.length = m := ⟨_, rfl⟩
    rw [htn] at hrun HW
    obtain ⟨yn, hyn⟩ : ∃ m, ys.length = m := ⟨_, rfl⟩
    rw [hyn] at hrun ⊢
    clear hRok h2 h6 k6 l6 own b2 hne hys htn hyn hyl hne2 R
    go_wp2_with (at_builtin; refine wpList_append_run rfl (.tmp 99) (.tmp 100) 22 rfl rfl rfl hrun ?_)
    all_goals (go_ret; exact HW.out)
set_option maxHeartbeats 16000000 in
theorem rfeed2_any {B g : Nat} {td : Td} {vP vV vC vR vE : Value} {w : World} (h : RTdH B g td vP vV vC vR vE w) (hB : B ≤ w.heap.size) (hn : td.port.length ≤ 100000000000) (f : ByteArray) (hf0 : eqB f [114, 111, 109] = false) (hf1 : eqB f [118, 100, 99] = false) (hf2 : eqB f [118, 99, 101] = false) (rest : List ByteArray) (A : Option Addr) (c : Nat) (hc : rest.length + 1 ≤ c) (HS : SRow w A (f :: rest)) (hsz : ∀ x ∈ rest, x.size ≤ 1000000) (hlen : rest.length ≤ 1000000) :
    Calls Tryd.prog 100 #[.pointer (some ⟨g, 0, none⟩), .slice A (rest.length + 1) c] w fun e w' => RTakeR B g (rtdL g vP vV vC vR vE) (feedT 2 rest td) w e w' := by
  obtain ⟨ad, rfl, hcf⟩ := srow_one HS
  have y_0 : (f.toList == [114, 111, 109]) = false := hf0
  have y_1 : (f.toList == [118, 100, 99]) = false := hf1
  have y_2 : (f.toList == [118, 99, 101]) = false := hf2
  have HCF := Lib.hid (fun (W : World) (hb : Below w.heap.size w W) => show W.cell? ad = some (.string f) by
    obtain ⟨ad', e', hx⟩ := srow_one (HS.keep hb)
    injection e' with e'
    subst e'
    exact hx)
  have HBAD : Hid (∀ w', Below w.heap.size w w' → RTakeR B g (rtdL g vP vV vC vR vE) (3, td) w (.returned (.int .i64 3)) w') := Lib.hid fun w' hb => ⟨rfl, Kp.of_below hb, fun e => absurd e (by simp)⟩
  obtain ⟨n, hnn⟩ : ∃ n, rest.length + 1 = n := ⟨_, rfl⟩
  have n0 : 0 < n := by omega
  have n1 : 1 ≤ n := by omega
  have hn1 : n - 1 = rest.length := by omega
  rw [hnn] at hc ⊢
  have hsl := slice_tail (some ad) n c n1 hc
  obtain ⟨A1, hA1⟩ : ∃ A1, (if c = 1 then some ad else (some ad).map (·.add 1)) = A1 := ⟨_, rfl⟩
  have HSR := hA1 ▸ HS.tail1 (c := c) (by omega)
  rw [hA1, hn1] at hsl
  have hBy := fun (W : World) (hb : Below w.heap.size w W) => rbytes_any rest A1 (c - 1) (by omega) (HSR.keep hb) hsz hlen
  obtain ⟨rn, hrn⟩ : ∃ rn, rest.length = rn := ⟨_, rfl⟩
  obtain ⟨c1, hc1e⟩ : ∃ c1, c - 1 = c1 := ⟨_, rfl⟩
  rw [hrn, hc1e] at hsl hBy
  have hP1 := Lib.hid (feedT_bad 2 rest td)
  have hP2 := Lib.hid (fun ys => feedT_ok 2 rest td ys)
  have HYL := Lib.hid (fun ys (hy : bytesA rest = some ys) => And.intro (bytesA_len rest ys hy) (bytesA_by rest ys hy))
  obtain ⟨RR, hRR⟩ : ∃ RR, feedT 2 rest td = RR := ⟨_, rfl⟩
  rw [hRR] at hP1 hP2 ⊢
  have HH := Lib.hid h
  have HBY := Lib.hid hBy
  have HLN : Hid (rest.length ≤ 1000000) := Lib.hid hlen
  clear h HS HSR hsz hlen hnn hn1 n1 hA1 hrn hc1e hRR hBy hf0 hf1 hf2
  go_enter Tryd.func100, Tryd.ntmps100
  go_wp2_with fail
  refine (HBY.out _ (Below.refl _ _)).mono ?_
  rintro e w2 ⟨b2, ⟨hbad, rfl⟩ | ⟨ys, q, cq, hne, hys, rfl, own⟩⟩
  · have H3 : Hid (RTakeR B g (rtdL g vP vV vC vR vE) RR w (.returned (.int .i64 3)) w2) := Lib.hid (by rw [hP1.out hbad]; exact HBAD.out _ b2)
    clear b2 hbad
    go_wp2_with fail
    all_goals (go_ret; exact H3.out)
  · have hRok := hP2.out ys hne hys
    have hyl := HYL.out ys hys
    have h2 := HH.out.below b2
    have B2 : B ≤ w2.heap.size := Nat.le_trans hB b2.size
    have hne2 : ys ≠ [] := fun e => hne (List.length_eq_zero_iff.1 (by rw [← hyl.1, e]; rfl))
    obtain ⟨A2, cap, hv, _, _, R, _⟩ := row_bytes own hyl.2
    injection hv with hA2 _ hcap
    subst hA2
    subst hcap
    have hadd := by
      have hl := hyl.1
      have hl2 := HLN.out
      exact h2.addF2 (m' := cq) hne2 R B2 (by omega)
    obtain ⟨b, c5, w5, hrun, c10, z10, h6, k6, l6⟩ := hadd
    have c2 : w2.cell? ⟨g, 5, none⟩ = some vR := h2.blk.cell 5
    have c0k : w2.cell? ad = some (.string f) := HCF.out w2 b2
    have HW : Hid (RTakeR B g (rtdL g vP vV vC vR vE) RR w (.returned (.int .i64 0)) (w5.setCell ⟨g, 5, none⟩ (.slice (some ⟨b, 0, none⟩) (td.port.length + ys.length) c5))) := Lib.hid (by
      rw [hRok]
      exact ⟨rfl, (Kp.of_below b2).trans k6 (fun x hx => Or.inl hx), fun _ => ⟨_, _, _, _, _, h6, fun x hx => (l6 x hx).imp id (fun hh => Nat.le_trans b2.size hh)⟩⟩)
    obtain ⟨tn, htn⟩ : ∃ m, td.port.length + ys.length = m := ⟨_, rfl⟩
    rw [htn] at hrun HW
    obtain ⟨yn, hyn⟩ : ∃ m, ys.length = m := ⟨_, rfl⟩
    rw [hyn] at hrun ⊢
    clear hRok h2 h6 k6 l6 own b2 hne hys htn hyn hyl hne2 R
    go_wp2_with (at_builtin; refine wpList_append_run rfl (.tmp 73) (.tmp 74) 22 rfl rfl rfl hrun ?_)
    all_goals (go_ret; exact HW.out)
end Go.Proofs.YtnhnphifhkkboaaDoor
namespace Go.Proofs.YtnhnphifhkkboaaDoor
open Go.RowKit Go.Shelf
set_option linter.unusedVariables false
set_option linter.unusedSimpArgs false
set_option maxRecDepth 100000
def nmA : Array Value := #[.string ⟨#[114, 101, 115, 101, 116]⟩, .string ⟨#[110, 109, 105]⟩, .string ⟨#[105, 114, 113, 49]⟩, .string ⟨#[105, 114, 113, 50]⟩]
theorem srow_three {w : World} {A : Option Addr} {x y z : ByteArray} {r : List ByteArray} (h : SRow w A (x :: y :: z :: r)) : ∃ ad, A = some ad ∧ w.cell? ad = some (.string x) ∧ w.cell? (ad.add 1) = some (.string y) ∧ w.cell? (ad.add 2) = some (.string z) := by
  obtain ⟨ad, e, _, hc⟩ := h 0 x rfl
  obtain ⟨ad', e', _, hc'⟩ := h 1 y rfl
  rw [e] at e'; injection e' with e'; subst e'
  obtain ⟨ad', e', _, hc2⟩ := h 2 z rfl
  rw [e] at e'; injection e' with e'; subst e'
  exact ⟨ad, e, hc, hc', hc2⟩
set_option maxHeartbeats 16000000 in
theorem redge_any {B g : Nat} {td : Td} {vP vV vC vR vE : Value} {w : World} (h : RTdH B g td vP vV vC vR vE w) (hB : B ≤ w.heap.size) (hn : td.edges.length ≤ 100000000000) (up : Bool) (f : ByteArray) (hf : eqB f [117, 112] = up) (rest : List ByteArray) (A : Option Addr) (c : Nat) (hc : rest.length + 1 ≤ c) (HS : SRow w A (f :: rest)) (hsz : ∀ x ∈ rest, x.size ≤ 1000000) (hlen : rest.length ≤ 1000000) :
    Calls Tryd.prog 101 #[.pointer (some ⟨g, 0, none⟩), .slice A (rest.length + 1) c] w fun e w' => RTakeR B g (rtdL g vP vV vC vR vE) (edgeT up rest td) w e w' := by
  have HBAD : Hid (∀ (n : Int) (w' : World), n ≠ 0 → Below w.heap.size w w' → RTakeR B g (rtdL g vP vV vC vR vE) (n, td) w (.returned (.int .i64 n)) w') := Lib.hid fun n w' hn hb => ⟨rfl, Kp.of_below hb, fun e => absurd e hn⟩
  by_cases h2 : rest.length = 2
  · obtain ⟨x, y, rfl⟩ : ∃ x y, rest = [x, y] := by
      match rest, h2 with
      | [x, y], _ => exact ⟨x, y, rfl⟩
    obtain ⟨ad, rfl, hcf, hcx0, hcy0⟩ := srow_three HS
    have hcx : w.cell? ⟨ad.block, ad.off + 1, none⟩ = some (.string x) := hcx0
    clear hcx0
    have hxs := hsz x (by simp)
    have hNu := fun W => rnumber_any x W (by unfold maxLen; omega)
    have hT := edgeT_two up x y td
    obtain ⟨RR, hRR⟩ : ∃ RR, edgeT up [x, y] td = RR := ⟨_, rfl⟩
    rw [hRR] at hT ⊢
    obtain ⟨N, hNN⟩ : ∃ N, numP x = N := ⟨_, rfl⟩
    rw [hNN] at hNu hT
    obtain ⟨n, e⟩ := N
    dsimp only at hNu hT
    have hl3 : [x, y].length + 1 = 3 := rfl
    rw [hl3] at hc ⊢
    clear hNN hRR hsz hlen h2 hl3 hxs
    by_cases he : e = 0
    · subst he
      rw [if_neg (by simp)] at hT
      have HT := Lib.hid hT
      have HH := Lib.hid h
      have HSS := Lib.hid HS
      subst hf
      clear hT h HS hcy0 hcf
      go_enter Tryd.func101, Tryd.ntmps101
      go_wp2_with (go_at_call 23; refine (hNu _).mono ?_; rintro e w' ⟨rfl, rfl⟩)
      obtain ⟨nb, hnb⟩ : ∃ nb, w'.heap.size = nb := ⟨_, rfl⟩
      rw [hnb]
      have hbk1 : Blk (w'.alloc (.cells nmA 109)) nb 109 nmA := hnb ▸ Blk.new w' 109 nmA
      have hbl1 : Below w'.heap.size w' (w'.alloc (.cells nmA 109)) := (Below.refl _ _).alloc (Nat.le_refl _) _
      unfold nmA at hbk1 hbl1
      generalize World.alloc w' _ = w1 at hbk1 hbl1 ⊢
      have HB1 := Lib.hid hbk1
      have HL1 := Lib.hid hbl1
      clear hbk1 hbl1 hnb
      go_loopw [8] (fun i wr => ∃ k : Nat, k ≤ 4 ∧ i = .int .i64 (k : Int) ∧ Below w'.heap.size w' wr ∧ Blk wr nb 109 nmA ∧ ∀ j, j < k → eqB y (nmL j) = false) (fun i _ => 4 - (intOf i).toNat)
      case atStart => exact ⟨0, by omega, rfl, HL1.out, HB1.out, fun j hj => absurd hj (by omega)⟩
      case round =>
        obtain ⟨k, hk, rfl, hbl, hbk, hno⟩ := hrel
        clear HB1 HL1
        have HBL := Lib.hid hbl
        have HBK := Lib.hid hbk
        have HNO := Lib.hid hno
        clear hbl hbk hno
        have hk5 : k = 0 ∨ k = 1 ∨ k = 2 ∨ k = 3 ∨ k = 4 := by omega
        clear hk
        rcases hk5 with rfl | rfl | rfl | rfl | rfl
        · rw [show (((0 : Nat) : Int)) = 0 from rfl]
          cases hb : eqB y (nmL 0) with
          | true =>
            have hb1 : (y.toList == [114, 101, 115, 101, 116]) = true := hb
            have hb2 : ([114, 101, 115, 101, 116] == y.toList) = true := by rw [← hb1]; exact beq_sym_ _ _
            have hI : nameI y = some 0 := by
              unfold nameI
              have q0 : eqB y [114, 101, 115, 101, 116] = true := hb
              simp only [q0, if_true, Bool.false_eq_true, if_false]
            have HR : Hid (RR = (0, { td with edges := td.edges ++ [⟨n, 0, eqB f [117, 112]⟩] })) := Lib.hid (by have := HT.out; rw [hI] at this; exact this)
            clear hI hb  HNO
            have cN : wr.cell? ⟨nb, 0, none⟩ = some (.string ⟨#[114, 101, 115, 101, 116]⟩) := HBK.out.cell 0
            have cY : wr.cell? ⟨ad.block, ad.off + 2, none⟩ = some (.string y) := by obtain ⟨ad', e', _, _, hx⟩ := srow_three (HSS.out.keep HBL.out); injection e' with e'; subst e'; exact hx
            go_upto_region 10 with fail
            refine rg_begin (S := fun wS => wS.cell? ⟨nb, 0, none⟩ = some (.string ⟨#[114, 101, 115, 101, 116]⟩) ∧ wS.cell? ⟨ad.block, ad.off + 2, none⟩ = some (.string y)) 7 #[false, false, false, false, false, false, false] (by kernel_rfl) (by kernel_rfl) (by kernel_rfl) ?_ (fun hHeld => ?_)
            · exact ⟨cN, cY⟩
            have bD := HBL.out.drew
            have kD : Blk (World.drew wr) nb 109 nmA := HBK.out.kp (Kp.refl [] _).drew (by simp)
            clear HBL HBK cN cY
            generalize World.drew wr = wD at *
            have HBD := Lib.hid bD
            have HKD := Lib.hid kD
            clear bD kD
            refine rg_take (i := 0) (d := some 26) (l := #[true, false, false, false, false, false, false]) (fuel := 6) (v := ?_) rfl (by kernel_rfl) (by kernel_rfl) (by kernel_rfl) (by kernel_rfl) (by kernel_rfl) (fun _ _ _ h => h) (by kernel_rfl) ?_ (by assumption) ?_
            rotate_left 1
            · (intro wS hSw; (try dsimp only at hSw); go_simp; try with_reducible rfl)
            try simp only [Act.put, List.setIfInBounds_toArray, List.set_cons_zero, List.set_cons_succ]
            refine rg_take (i := 1) (d := some 27) (l := #[true, true, false, false, false, false, false]) (fuel := 5) (v := ?_) rfl (by kernel_rfl) (by kernel_rfl) (by kernel_rfl) (by kernel_rfl) (by kernel_rfl) (fun _ _ _ h => h) (by kernel_rfl) ?_ (by assumption) ?_
            rotate_left 1
            · (intro wS hSw; (try dsimp only at hSw); go_simp; try with_reducible rfl)
            try simp only [Act.put, List.setIfInBounds_toArray, List.set_cons_zero, List.set_cons_succ]
            refine rg_take (i := 2) (d := some 28) (l := #[true, true, true, false, false, false, false]) (fuel := 4) (v := ?_) rfl (by kernel_rfl) (by kernel_rfl) (by kernel_rfl) (by kernel_rfl) (by kernel_rfl) (fun _ _ _ h => h) (by kernel_rfl) ?_ (by assumption) ?_
            rotate_left 1
            · (intro wS hSw; (try dsimp only at hSw); go_simp; try with_reducible rfl)
            try simp only [Act.put, List.setIfInBounds_toArray, List.set_cons_zero, List.set_cons_succ]
            refine rg_take (i := 3) (d := some 29) (l := #[true, true, true, true, false, false, false]) (fuel := 3) (v := ?_) rfl (by kernel_rfl) (by kernel_rfl) (by kernel_rfl) (by kernel_rfl) (by kernel_rfl) (fun _ _ _ h => h) (by kernel_rfl) ?_ (by assumption) ?_
            rotate_left 1
            · (intro wS hSw; (try dsimp only at hSw); go_simp; try with_reducible rfl)
            try simp only [Act.put, List.setIfInBounds_toArray, List.set_cons_zero, List.set_cons_succ]
            refine rg_take (i := 4) (d := some 30) (l := #[true, true, true, true, true, false, false]) (fuel := 2) (v := ?_) rfl (by kernel_rfl) (by kernel_rfl) (by kernel_rfl) (by kernel_rfl) (by kernel_rfl) (fun _ _ _ h => h) (by kernel_rfl) ?_ (by assumption) ?_
            rotate_left 1
            · (intro wS hSw; (try dsimp only at hSw); go_simp; try with_reducible rfl)
            try simp only [Act.put, List.setIfInBounds_toArray, List.set_cons_zero, List.set_cons_succ]
            refine rg_take (i := 5) (d := some 31) (l := #[true, true, true, true, true, true, false]) (fuel := 1) (v := ?_) rfl (by kernel_rfl) (by kernel_rfl) (by kernel_rfl) (by kernel_rfl) (by kernel_rfl) (fun _ _ _ h => h) (by kernel_rfl) ?_ (by assumption) ?_
            rotate_left 1
            · (intro wS hSw; (try dsimp only at hSw); go_simp; try with_reducible rfl)
            try simp only [Act.put, List.setIfInBounds_toArray, List.set_cons_zero, List.set_cons_succ]
            refine rg_take (i := 6) (d := some 32) (l := #[true, true, true, true, true, true, true]) (fuel := 0) (v := ?_) rfl (by kernel_rfl) (by kernel_rfl) (by kernel_rfl) (by kernel_rfl) (by kernel_rfl) (fun _ _ _ h => h) (by kernel_rfl) ?_ (by assumption) ?_
            rotate_left 1
            · (intro wS hSw; (try dsimp only at hSw); go_simp; try with_reducible rfl)
            try simp only [Act.put, List.setIfInBounds_toArray, List.set_cons_zero, List.set_cons_succ]
            refine wpAnyH_done (by kernel_rfl) ?_ _
            go_upto_region 11 with fail
            refine rg_begin (S := fun _ => True) 18 #[false, false, false, false, false, false, false, false, false, false, false, false, false, false, false, false, false, false] (by kernel_rfl) (by kernel_rfl) (by kernel_rfl) ?_ (fun hHeld => ?_)
            · trivial
            have bE := HBD.out.drew
            clear HBD HKD
            generalize World.drew wD = wE at *
            have cF : wE.cell? ad = some (.string f) := by obtain ⟨ad', e', hx⟩ := srow_one (HSS.out.keep bE); injection e' with e'; subst e'; exact hx
            have hE := HH.out.below bE
            have hSZ := bE.size
            obtain ⟨b, c5, w5, hrun, c10b, z10, gb, far, h6, k6, l6⟩ := hE.addE (p := ⟨n, 0, eqB f [117, 112]⟩) (Nat.le_trans hB hSZ) hn
            have c10 : wE.cell? ⟨g, 6, none⟩ = some vE := hE.blk.cell 6
            have c10a : (wE.alloc (.cells #[.int .i64 n, .int .u8 (IntKind.u8.wrap 0), .bool (f.toList == [117, 112])] 31)).cell? ⟨g, 6, none⟩ = some vE := (hE.blk.alloc _).cell 6
            have HW : Hid (RTakeR B g (rtdL g vP vV vC vR vE) RR w' (.returned (.int .i64 0)) (w5.setCell ⟨g, 6, none⟩ (.slice (some ⟨b, 0, none⟩) (td.edges.length + 1) c5))) := Lib.hid (by rw [HR.out]; exact ⟨rfl, (Kp.of_below bE).trans k6 (fun x hx => Or.inl hx), fun _ => ⟨_, _, _, _, _, h6, fun x hx => (l6 x hx).imp id (fun hh => Nat.le_trans hSZ hh)⟩⟩)
            have RUN := Lib.hid hrun
            clear hrun gb far h6 k6 l6 hE bE
            obtain ⟨TN, hTN⟩ : ∃ m, td.edges.length + 1 = m := ⟨_, rfl⟩
            rw [hTN] at RUN HW
            clear hTN
            refine rg_take (i := 0) (d := some 33) (l := #[true, false, false, false, false, false, false, false, false, false, false, false, false, false, false, false, false, false]) (fuel := 17) (v := ?_) rfl (by kernel_rfl) (by kernel_rfl) (by kernel_rfl) (by kernel_rfl) (by kernel_rfl) (fun _ _ _ h => h) (by kernel_rfl) ?_ (by assumption) ?_
            rotate_left 1
            · (intro wS hSw; (try dsimp only at hSw); go_simp; try with_reducible rfl)
            try simp only [Act.put, List.setIfInBounds_toArray, List.set_cons_zero, List.set_cons_succ]
            refine rg_take (i := 1) (d := some 34) (l := #[true, true, false, false, false, false, false, false, false, false, false, false, false, false, false, false, false, false]) (fuel := 16) (v := ?_) rfl (by kernel_rfl) (by kernel_rfl) (by kernel_rfl) (by kernel_rfl) (by kernel_rfl) (fun _ _ _ h => h) (by kernel_rfl) ?_ (by assumption) ?_
            rotate_left 1
            · (intro wS hSw; (try dsimp only at hSw); go_simp; try with_reducible rfl)
            try simp only [Act.put, List.setIfInBounds_toArray, List.set_cons_zero, List.set_cons_succ]
            refine rg_take (i := 2) (d := some 35) (l := #[true, true, true, false, false, false, false, false, false, false, false, false, false, false, false, false, false, false]) (fuel := 15) (v := ?_) rfl (by kernel_rfl) (by kernel_rfl) (by kernel_rfl) (by kernel_rfl) (by kernel_rfl) (fun _ _ _ h => h) (by kernel_rfl) ?_ (by assumption) ?_
            rotate_left 1
            · (intro wS hSw; (try dsimp only at hSw); go_simp; try with_reducible rfl)
            try simp only [Act.put, List.setIfInBounds_toArray, List.set_cons_zero, List.set_cons_succ]
            refine rg_take (i := 3) (d := some 36) (l := #[true, true, true, true, false, false, false, false, false, false, false, false, false, false, false, false, false, false]) (fuel := 14) (v := ?_) rfl (by kernel_rfl) (by kernel_rfl) (by kernel_rfl) (by kernel_rfl) (by kernel_rfl) (fun _ _ _ h => h) (by kernel_rfl) ?_ (by assumption) ?_
            rotate_left 1
            · (intro wS hSw; (try dsimp only at hSw); go_simp; try with_reducible rfl)
            try simp only [Act.put, List.setIfInBounds_toArray, List.set_cons_zero, List.set_cons_succ]
            refine rg_take (i := 5) (d := some 38) (l := #[true, true, true, true, false, true, false, false, false, false, false, false, false, false, false, false, false, false]) (fuel := 13) (v := ?_) rfl (by kernel_rfl) (by kernel_rfl) (by kernel_rfl) (by kernel_rfl) (by kernel_rfl) (fun _ _ _ h => h) (by kernel_rfl) ?_ (by assumption) ?_
            rotate_left 1
            · (intro wS hSw; (try dsimp only at hSw); go_simp; try with_reducible rfl)
            try simp only [Act.put, List.setIfInBounds_toArray, List.set_cons_zero, List.set_cons_succ]
            refine rg_take (i := 6) (d := some 39) (l := #[true, true, true, true, false, true, true, false, false, false, false, false, false, false, false, false, false, false]) (fuel := 12) (v := ?_) rfl (by kernel_rfl) (by kernel_rfl) (by kernel_rfl) (by kernel_rfl) (by kernel_rfl) (fun _ _ _ h => h) (by kernel_rfl) ?_ (by assumption) ?_
            rotate_left 1
            · (intro wS hSw; (try dsimp only at hSw); go_simp; try with_reducible rfl)
            try simp only [Act.put, List.setIfInBounds_toArray, List.set_cons_zero, List.set_cons_succ]
            refine rg_take (i := 7) (d := some 40) (l := #[true, true, true, true, false, true, true, true, false, false, false, false, false, false, false, false, false, false]) (fuel := 11) (v := ?_) rfl (by kernel_rfl) (by kernel_rfl) (by kernel_rfl) (by kernel_rfl) (by kernel_rfl) (fun _ _ _ h => h) (by kernel_rfl) ?_ (by assumption) ?_
            rotate_left 1
            · (intro wS hSw; (try dsimp only at hSw); go_simp; try with_reducible rfl)
            try simp only [Act.put, List.setIfInBounds_toArray, List.set_cons_zero, List.set_cons_succ]
            refine rg_take (i := 8) (d := some 41) (l := #[true, true, true, true, false, true, true, true, true, false, false, false, false, false, false, false, false, false]) (fuel := 10) (v := ?_) rfl (by kernel_rfl) (by kernel_rfl) (by kernel_rfl) (by kernel_rfl) (by kernel_rfl) (fun _ _ _ h => h) (by kernel_rfl) ?_ (by assumption) ?_
            rotate_left 1
            · (intro wS hSw; (try dsimp only at hSw); go_simp; try with_reducible rfl)
            try simp only [Act.put, List.setIfInBounds_toArray, List.set_cons_zero, List.set_cons_succ]
            refine rg_take (i := 9) (d := some 42) (l := #[true, true, true, true, false, true, true, true, true, true, false, false, false, false, false, false, false, false]) (fuel := 9) (v := ?_) rfl (by kernel_rfl) (by kernel_rfl) (by kernel_rfl) (by kernel_rfl) (by kernel_rfl) (fun _ _ _ h => h) (by kernel_rfl) ?_ (by assumption) ?_
            rotate_left 1
            · (intro wS hSw; (try dsimp only at hSw); go_simp; try with_reducible rfl)
            try simp only [Act.put, List.setIfInBounds_toArray, List.set_cons_zero, List.set_cons_succ]
            refine rg_of (rs := [4, 10]) (fuel := 8) (by kernel_rfl) rfl ?_
            refine rg_step (i := 4) (l := #[true, true, true, true, true, true, true, true, true, true, false, false, false, false, false, false, false, false]) rfl (by kernel_rfl) (by kernel_rfl) ?_ ?_
            · intro K hK
              go_simp
              skip
              first | (refine hK.out _ _ ?_ (fun hHeld => ?_)) | (go_wp2_with fail; refine hK.out _ _ ?_ (fun hHeld => ?_))
              · (try dsimp only); skip
              clear hK K
              try simp only [Act.put, List.setIfInBounds_toArray, List.set_cons_zero, List.set_cons_succ]
              refine rg_next (i := 10) (l := #[true, true, true, true, true, true, true, true, true, true, true, false, false, false, false, false, false, false]) (fuel := 7) (by kernel_rfl) rfl (by kernel_rfl) (by kernel_rfl) (fun K hK => ?_)
              go_simp
              skip
              first | (refine hK.out _ _ ?_ (fun hHeld => ?_)) | (go_wp2_with fail; refine hK.out _ _ ?_ (fun hHeld => ?_))
              · (try dsimp only); skip
              clear hK K
              try simp only [Act.put, List.setIfInBounds_toArray, List.set_cons_zero, List.set_cons_succ]
              refine rg_take (i := 11) (d := some 44) (l := #[true, true, true, true, true, true, true, true, true, true, true, true, false, false, false, false, false, false]) (fuel := 6) (v := ?_) rfl (by kernel_rfl) (by kernel_rfl) (by kernel_rfl) (by kernel_rfl) (by kernel_rfl) (fun _ _ _ h => h) (by kernel_rfl) ?_ (by assumption) ?_
              rotate_left 1
              · (intro wS hSw; (try dsimp only at hSw); go_simp; try with_reducible rfl)
              try simp only [Act.put, List.setIfInBounds_toArray, List.set_cons_zero, List.set_cons_succ]
              refine rg_take (i := 12) (d := some 45) (l := #[true, true, true, true, true, true, true, true, true, true, true, true, true, false, false, false, false, false]) (fuel := 5) (v := ?_) rfl (by kernel_rfl) (by kernel_rfl) (by kernel_rfl) (by kernel_rfl) (by kernel_rfl) (fun _ _ _ h => h) (by kernel_rfl) ?_ (by assumption) ?_
              rotate_left 1
              · (intro wS hSw; (try dsimp only at hSw); go_simp; try with_reducible rfl)
              try simp only [Act.put, List.setIfInBounds_toArray, List.set_cons_zero, List.set_cons_succ]
              refine rg_next (i := 13) (l := #[true, true, true, true, true, true, true, true, true, true, true, true, true, true, false, false, false, false]) (fuel := 4) (by kernel_rfl) rfl (by kernel_rfl) (by kernel_rfl) (fun K hK => ?_)
              go_simp
              skip
              first | (refine hK.out _ _ ?_ (fun hHeld => ?_)) | (go_wp2_with fail; refine hK.out _ _ ?_ (fun hHeld => ?_))
              · (try dsimp only); skip
              clear hK K
              try simp only [Act.put, List.setIfInBounds_toArray, List.set_cons_zero, List.set_cons_succ]
              refine rg_next (i := 14) (l := #[true, true, true, true, true, true, true, true, true, true, true, true, true, true, true, false, false, false]) (fuel := 3) (by kernel_rfl) rfl (by kernel_rfl) (by kernel_rfl) (fun K hK => ?_)
              refine wp_append_anyC (.tmp 37) (.tmp 46) 25 rfl rfl rfl RUN.out ?_
              refine hK.out _ _ ?_ (fun hHeld => ?_)
              · (try dsimp only); skip
              clear hK K
              try simp only [Act.put, List.setIfInBounds_toArray, List.set_cons_zero, List.set_cons_succ]
              refine rg_take (i := 15) (d := some 48) (l := #[true, true, true, true, true, true, true, true, true, true, true, true, true, true, true, true, false, false]) (fuel := 2) (v := ?_) rfl (by kernel_rfl) (by kernel_rfl) (by kernel_rfl) (by kernel_rfl) (by kernel_rfl) (fun _ _ _ h => h) (by kernel_rfl) ?_ (by assumption) ?_
              rotate_left 1
              · (intro wS hSw; (try dsimp only at hSw); go_simp; try with_reducible rfl)
              try simp only [Act.put, List.setIfInBounds_toArray, List.set_cons_zero, List.set_cons_succ]
              refine rg_take (i := 16) (d := some 49) (l := #[true, true, true, true, true, true, true, true, true, true, true, true, true, true, true, true, true, false]) (fuel := 1) (v := ?_) rfl (by kernel_rfl) (by kernel_rfl) (by kernel_rfl) (by kernel_rfl) (by kernel_rfl) (fun _ _ _ h => h) (by kernel_rfl) ?_ (by assumption) ?_
              rotate_left 1
              · (intro wS hSw; (try dsimp only at hSw); go_simp; try with_reducible rfl)
              try simp only [Act.put, List.setIfInBounds_toArray, List.set_cons_zero, List.set_cons_succ]
              refine rg_next (i := 17) (l := #[true, true, true, true, true, true, true, true, true, true, true, true, true, true, true, true, true, true]) (fuel := 0) (by kernel_rfl) rfl (by kernel_rfl) (by kernel_rfl) (fun K hK => ?_)
              go_simp
              skip
              first | (refine hK.out _ _ ?_ (fun hHeld => ?_)) | (go_wp2_with fail; refine hK.out _ _ ?_ (fun hHeld => ?_))
              · (try dsimp only); skip
              clear hK K
              try simp only [Act.put, List.setIfInBounds_toArray, List.set_cons_zero, List.set_cons_succ]
              refine wpAnyH_done (by kernel_rfl) ?_ _
              go_wp2_with fail
              go_ret
              exact HW.out
            refine rg_step (i := 10) (l := #[true, true, true, true, false, true, true, true, true, true, true, false, false, false, false, false, false, false]) rfl (by kernel_rfl) (by kernel_rfl) ?_ ?_
            · intro K hK
              go_simp
              skip
              first | (refine hK.out _ _ ?_ (fun hHeld => ?_)) | (go_wp2_with fail; refine hK.out _ _ ?_ (fun hHeld => ?_))
              · (try dsimp only); skip
              clear hK K
              try simp only [Act.put, List.setIfInBounds_toArray, List.set_cons_zero, List.set_cons_succ]
              refine rg_take (i := 11) (d := some 44) (l := #[true, true, true, true, false, true, true, true, true, true, true, true, false, false, false, false, false, false]) (fuel := 7) (v := ?_) rfl (by kernel_rfl) (by kernel_rfl) (by kernel_rfl) (by kernel_rfl) (by kernel_rfl) (fun _ _ _ h => h) (by kernel_rfl) ?_ (by assumption) ?_
              rotate_left 1
              · (intro wS hSw; (try dsimp only at hSw); go_simp; try with_reducible rfl)
              try simp only [Act.put, List.setIfInBounds_toArray, List.set_cons_zero, List.set_cons_succ]
              refine rg_take (i := 12) (d := some 45) (l := #[true, true, true, true, false, true, true, true, true, true, true, true, true, false, false, false, false, false]) (fuel := 6) (v := ?_) rfl (by kernel_rfl) (by kernel_rfl) (by kernel_rfl) (by kernel_rfl) (by kernel_rfl) (fun _ _ _ h => h) (by kernel_rfl) ?_ (by assumption) ?_
              rotate_left 1
              · (intro wS hSw; (try dsimp only at hSw); go_simp; try with_reducible rfl)
              try simp only [Act.put, List.setIfInBounds_toArray, List.set_cons_zero, List.set_cons_succ]
              refine rg_of (rs := [4, 13]) (fuel := 5) (by kernel_rfl) rfl ?_
              refine rg_step (i := 4) (l := #[true, true, true, true, true, true, true, true, true, true, true, true, true, false, false, false, false, false]) rfl (by kernel_rfl) (by kernel_rfl) ?_ ?_
              · intro K hK
                go_simp
                skip
                first | (refine hK.out _ _ ?_ (fun hHeld => ?_)) | (go_wp2_with fail; refine hK.out _ _ ?_ (fun hHeld => ?_))
                · (try dsimp only); skip
                clear hK K
                try simp only [Act.put, List.setIfInBounds_toArray, List.set_cons_zero, List.set_cons_succ]
                refine rg_next (i := 13) (l := #[true, true, true, true, true, true, true, true, true, true, true, true, true, true, false, false, false, false]) (fuel := 4) (by kernel_rfl) rfl (by kernel_rfl) (by kernel_rfl) (fun K hK => ?_)
                go_simp
                skip
                first | (refine hK.out _ _ ?_ (fun hHeld => ?_)) | (go_wp2_with fail; refine hK.out _ _ ?_ (fun hHeld => ?_))
                · (try dsimp only); skip
                clear hK K
                try simp only [Act.put, List.setIfInBounds_toArray, List.set_cons_zero, List.set_cons_succ]
                refine rg_next (i := 14) (l := #[true, true, true, true, true, true, true, true, true, true, true, true, true, true, true, false, false, false]) (fuel := 3) (by kernel_rfl) rfl (by kernel_rfl) (by kernel_rfl) (fun K hK => ?_)
                refine wp_append_anyC (.tmp 37) (.tmp 46) 25 rfl rfl rfl RUN.out ?_
                refine hK.out _ _ ?_ (fun hHeld => ?_)
                · (try dsimp only); skip
                clear hK K
                try simp only [Act.put, List.setIfInBounds_toArray, List.set_cons_zero, List.set_cons_succ]
                refine rg_take (i := 15) (d := some 48) (l := #[true, true, true, true, true, true, true, true, true, true, true, true, true, true, true, true, false, false]) (fuel := 2) (v := ?_) rfl (by kernel_rfl) (by kernel_rfl) (by kernel_rfl) (by kernel_rfl) (by kernel_rfl) (fun _ _ _ h => h) (by kernel_rfl) ?_ (by assumption) ?_
                rotate_left 1
                · (intro wS hSw; (try dsimp only at hSw); go_simp; try with_reducible rfl)
                try simp only [Act.put, List.setIfInBounds_toArray, List.set_cons_zero, List.set_cons_succ]
                refine rg_take (i := 16) (d := some 49) (l := #[true, true, true, true, true, true, true, true, true, true, true, true, true, true, true, true, true, false]) (fuel := 1) (v := ?_) rfl (by kernel_rfl) (by kernel_rfl) (by kernel_rfl) (by kernel_rfl) (by kernel_rfl) (fun _ _ _ h => h) (by kernel_rfl) ?_ (by assumption) ?_
                rotate_left 1
                · (intro wS hSw; (try dsimp only at hSw); go_simp; try with_reducible rfl)
                try simp only [Act.put, List.setIfInBounds_toArray, List.set_cons_zero, List.set_cons_succ]
                refine rg_next (i := 17) (l := #[true, true, true, true, true, true, true, true, true, true, true, true, true, true, true, true, true, true]) (fuel := 0) (by kernel_rfl) rfl (by kernel_rfl) (by kernel_rfl) (fun K hK => ?_)
                go_simp
                skip
                first | (refine hK.out _ _ ?_ (fun hHeld => ?_)) | (go_wp2_with fail; refine hK.out _ _ ?_ (fun hHeld => ?_))
                · (try dsimp only); skip
                clear hK K
                try simp only [Act.put, List.setIfInBounds_toArray, List.set_cons_zero, List.set_cons_succ]
                refine wpAnyH_done (by kernel_rfl) ?_ _
                go_wp2_with fail
                go_ret
                exact HW.out
              refine rg_step (i := 13) (l := #[true, true, true, true, false, true, true, true, true, true, true, true, true, true, false, false, false, false]) rfl (by kernel_rfl) (by kernel_rfl) ?_ ?_
              · intro K hK
                go_simp
                skip
                first | (refine hK.out _ _ ?_ (fun hHeld => ?_)) | (go_wp2_with fail; refine hK.out _ _ ?_ (fun hHeld => ?_))
                · (try dsimp only); skip
                clear hK K
                try simp only [Act.put, List.setIfInBounds_toArray, List.set_cons_zero, List.set_cons_succ]
                refine rg_next (i := 4) (l := #[true, true, true, true, true, true, true, true, true, true, true, true, true, true, false, false, false, false]) (fuel := 4) (by kernel_rfl) rfl (by kernel_rfl) (by kernel_rfl) (fun K hK => ?_)
                go_simp
                skip
                first | (refine hK.out _ _ ?_ (fun hHeld => ?_)) | (go_wp2_with fail; refine hK.out _ _ ?_ (fun hHeld => ?_))
                · (try dsimp only); skip
                clear hK K
                try simp only [Act.put, List.setIfInBounds_toArray, List.set_cons_zero, List.set_cons_succ]
                refine rg_next (i := 14) (l := #[true, true, true, true, true, true, true, true, true, true, true, true, true, true, true, false, false, false]) (fuel := 3) (by kernel_rfl) rfl (by kernel_rfl) (by kernel_rfl) (fun K hK => ?_)
                refine wp_append_anyC (.tmp 37) (.tmp 46) 25 rfl rfl rfl RUN.out ?_
                refine hK.out _ _ ?_ (fun hHeld => ?_)
                · (try dsimp only); skip
                clear hK K
                try simp only [Act.put, List.setIfInBounds_toArray, List.set_cons_zero, List.set_cons_succ]
                refine rg_take (i := 15) (d := some 48) (l := #[true, true, true, true, true, true, true, true, true, true, true, true, true, true, true, true, false, false]) (fuel := 2) (v := ?_) rfl (by kernel_rfl) (by kernel_rfl) (by kernel_rfl) (by kernel_rfl) (by kernel_rfl) (fun _ _ _ h => h) (by kernel_rfl) ?_ (by assumption) ?_
                rotate_left 1
                · (intro wS hSw; (try dsimp only at hSw); go_simp; try with_reducible rfl)
                try simp only [Act.put, List.setIfInBounds_toArray, List.set_cons_zero, List.set_cons_succ]
                refine rg_take (i := 16) (d := some 49) (l := #[true, true, true, true, true, true, true, true, true, true, true, true, true, true, true, true, true, false]) (fuel := 1) (v := ?_) rfl (by kernel_rfl) (by kernel_rfl) (by kernel_rfl) (by kernel_rfl) (by kernel_rfl) (fun _ _ _ h => h) (by kernel_rfl) ?_ (by assumption) ?_
                rotate_left 1
                · (intro wS hSw; (try dsimp only at hSw); go_simp; try with_reducible rfl)
                try simp only [Act.put, List.setIfInBounds_toArray, List.set_cons_zero, List.set_cons_succ]
                refine rg_next (i := 17) (l := #[true, true, true, true, true, true, true, true, true, true, true, true, true, true, true, true, true, true]) (fuel := 0) (by kernel_rfl) rfl (by kernel_rfl) (by kernel_rfl) (fun K hK => ?_)
                go_simp
                skip
                first | (refine hK.out _ _ ?_ (fun hHeld => ?_)) | (go_wp2_with fail; refine hK.out _ _ ?_ (fun hHeld => ?_))
                · (try dsimp only); skip
                clear hK K
                try simp only [Act.put, List.setIfInBounds_toArray, List.set_cons_zero, List.set_cons_succ]
                refine wpAnyH_done (by kernel_rfl) ?_ _
                go_wp2_with fail
                go_ret
                exact HW.out
              exact AllReadyH.nil
            exact AllReadyH.nil
          | false =>
            have hb1 : (y.toList == [114, 101, 115, 101, 116]) = false := hb
            have hb2 : ([114, 101, 115, 101, 116] == y.toList) = false := by rw [← hb1]; exact beq_sym_ _ _
            have cN : wr.cell? ⟨nb, 0, none⟩ = some (.string ⟨#[114, 101, 115, 101, 116]⟩) := HBK.out.cell 0
            have cY : wr.cell? ⟨ad.block, ad.off + 2, none⟩ = some (.string y) := by obtain ⟨ad', e', _, _, hx⟩ := srow_three (HSS.out.keep HBL.out); injection e' with e'; subst e'; exact hx
            go_upto_region 10 with fail
            refine rg_begin (S := fun wS => wS.cell? ⟨nb, 0, none⟩ = some (.string ⟨#[114, 101, 115, 101, 116]⟩) ∧ wS.cell? ⟨ad.block, ad.off + 2, none⟩ = some (.string y)) 7 #[false, false, false, false, false, false, false] (by kernel_rfl) (by kernel_rfl) (by kernel_rfl) ?_ (fun hHeld => ?_)
            · exact ⟨cN, cY⟩
            have bD := HBL.out.drew
            have kD : Blk (World.drew wr) nb 109 nmA := HBK.out.kp (Kp.refl [] _).drew (by simp)
            clear HBL HBK cN cY
            generalize World.drew wr = wD at *
            have HBD := Lib.hid bD
            have HKD := Lib.hid kD
            clear bD kD
            refine rg_take (i := 0) (d := some 26) (l := #[true, false, false, false, false, false, false]) (fuel := 6) (v := ?_) rfl (by kernel_rfl) (by kernel_rfl) (by kernel_rfl) (by kernel_rfl) (by kernel_rfl) (fun _ _ _ h => h) (by kernel_rfl) ?_ (by assumption) ?_
            rotate_left 1
            · (intro wS hSw; (try dsimp only at hSw); go_simp; try with_reducible rfl)
            try simp only [Act.put, List.setIfInBounds_toArray, List.set_cons_zero, List.set_cons_succ]
            refine rg_take (i := 1) (d := some 27) (l := #[true, true, false, false, false, false, false]) (fuel := 5) (v := ?_) rfl (by kernel_rfl) (by kernel_rfl) (by kernel_rfl) (by kernel_rfl) (by kernel_rfl) (fun _ _ _ h => h) (by kernel_rfl) ?_ (by assumption) ?_
            rotate_left 1
            · (intro wS hSw; (try dsimp only at hSw); go_simp; try with_reducible rfl)
            try simp only [Act.put, List.setIfInBounds_toArray, List.set_cons_zero, List.set_cons_succ]
            refine rg_take (i := 2) (d := some 28) (l := #[true, true, true, false, false, false, false]) (fuel := 4) (v := ?_) rfl (by kernel_rfl) (by kernel_rfl) (by kernel_rfl) (by kernel_rfl) (by kernel_rfl) (fun _ _ _ h => h) (by kernel_rfl) ?_ (by assumption) ?_
            rotate_left 1
            · (intro wS hSw; (try dsimp only at hSw); go_simp; try with_reducible rfl)
            try simp only [Act.put, List.setIfInBounds_toArray, List.set_cons_zero, List.set_cons_succ]
            refine rg_take (i := 3) (d := some 29) (l := #[true, true, true, true, false, false, false]) (fuel := 3) (v := ?_) rfl (by kernel_rfl) (by kernel_rfl) (by kernel_rfl) (by kernel_rfl) (by kernel_rfl) (fun _ _ _ h => h) (by kernel_rfl) ?_ (by assumption) ?_
            rotate_left 1
            · (intro wS hSw; (try dsimp only at hSw); go_simp; try with_reducible rfl)
            try simp only [Act.put, List.setIfInBounds_toArray, List.set_cons_zero, List.set_cons_succ]
            refine rg_take (i := 4) (d := some 30) (l := #[true, true, true, true, true, false, false]) (fuel := 2) (v := ?_) rfl (by kernel_rfl) (by kernel_rfl) (by kernel_rfl) (by kernel_rfl) (by kernel_rfl) (fun _ _ _ h => h) (by kernel_rfl) ?_ (by assumption) ?_
            rotate_left 1
            · (intro wS hSw; (try dsimp only at hSw); go_simp; try with_reducible rfl)
            try simp only [Act.put, List.setIfInBounds_toArray, List.set_cons_zero, List.set_cons_succ]
            refine rg_take (i := 5) (d := some 31) (l := #[true, true, true, true, true, true, false]) (fuel := 1) (v := ?_) rfl (by kernel_rfl) (by kernel_rfl) (by kernel_rfl) (by kernel_rfl) (by kernel_rfl) (fun _ _ _ h => h) (by kernel_rfl) ?_ (by assumption) ?_
            rotate_left 1
            · (intro wS hSw; (try dsimp only at hSw); go_simp; try with_reducible rfl)
            try simp only [Act.put, List.setIfInBounds_toArray, List.set_cons_zero, List.set_cons_succ]
            refine rg_take (i := 6) (d := some 32) (l := #[true, true, true, true, true, true, true]) (fuel := 0) (v := ?_) rfl (by kernel_rfl) (by kernel_rfl) (by kernel_rfl) (by kernel_rfl) (by kernel_rfl) (fun _ _ _ h => h) (by kernel_rfl) ?_ (by assumption) ?_
            rotate_left 1
            · (intro wS hSw; (try dsimp only at hSw); go_simp; try with_reducible rfl)
            try simp only [Act.put, List.setIfInBounds_toArray, List.set_cons_zero, List.set_cons_succ]
            refine wpAnyH_done (by kernel_rfl) ?_ _
            go_wp2_with fail
            go_roundw
            case rel => exact ⟨1, by omega, by go_num, HBD.out, HKD.out, fun j hj => (Nat.lt_succ_iff_lt_or_eq.1 hj).elim (HNO.out j) fun e => by subst e; exact hb⟩
            case measure => simp [intOf]
        · rw [show (((1 : Nat) : Int)) = 1 from rfl]
          cases hb : eqB y (nmL 1) with
          | true =>
            have hb1 : (y.toList == [110, 109, 105]) = true := hb
            have hb2 : ([110, 109, 105] == y.toList) = true := by rw [← hb1]; exact beq_sym_ _ _
            have q0 : eqB y [114, 101, 115, 101, 116] = false := HNO.out 0 (by omega)
            have hI : nameI y = some 1 := by
              unfold nameI
              have q1 : eqB y [110, 109, 105] = true := hb
              simp only [q0, q1, if_true, Bool.false_eq_true, if_false]
            have HR : Hid (RR = (0, { td with edges := td.edges ++ [⟨n, 1, eqB f [117, 112]⟩] })) := Lib.hid (by have := HT.out; rw [hI] at this; exact this)
            clear hI hb q0 HNO
            have cN : wr.cell? ⟨nb, 1, none⟩ = some (.string ⟨#[110, 109, 105]⟩) := HBK.out.cell 1
            have cY : wr.cell? ⟨ad.block, ad.off + 2, none⟩ = some (.string y) := by obtain ⟨ad', e', _, _, hx⟩ := srow_three (HSS.out.keep HBL.out); injection e' with e'; subst e'; exact hx
            go_upto_region 10 with fail
            refine rg_begin (S := fun wS => wS.cell? ⟨nb, 1, none⟩ = some (.string ⟨#[110, 109, 105]⟩) ∧ wS.cell? ⟨ad.block, ad.off + 2, none⟩ = some (.string y)) 7 #[false, false, false, false, false, false, false] (by kernel_rfl) (by kernel_rfl) (by kernel_rfl) ?_ (fun hHeld => ?_)
            · exact ⟨cN, cY⟩
            have bD := HBL.out.drew
            have kD : Blk (World.drew wr) nb 109 nmA := HBK.out.kp (Kp.refl [] _).drew (by simp)
            clear HBL HBK cN cY
            generalize World.drew wr = wD at *
            have HBD := Lib.hid bD
            have HKD := Lib.hid kD
            clear bD kD
            refine rg_take (i := 0) (d := some 26) (l := #[true, false, false, false, false, false, false]) (fuel := 6) (v := ?_) rfl (by kernel_rfl) (by kernel_rfl) (by kernel_rfl) (by kernel_rfl) (by kernel_rfl) (fun _ _ _ h => h) (by kernel_rfl) ?_ (by assumption) ?_
            rotate_left 1
            · (intro wS hSw; (try dsimp only at hSw); go_simp; try with_reducible rfl)
            try simp only [Act.put, List.setIfInBounds_toArray, List.set_cons_zero, List.set_cons_succ]
            refine rg_take (i := 1) (d := some 27) (l := #[true, true, false, false, false, false, false]) (fuel := 5) (v := ?_) rfl (by kernel_rfl) (by kernel_rfl) (by kernel_rfl) (by kernel_rfl) (by kernel_rfl) (fun _ _ _ h => h) (by kernel_rfl) ?_ (by assumption) ?_
            rotate_left 1
            · (intro wS hSw; (try dsimp only at hSw); go_simp; try with_reducible rfl)
            try simp only [Act.put, List.setIfInBounds_toArray, List.set_cons_zero, List.set_cons_succ]
            refine rg_take (i := 2) (d := some 28) (l := #[true, true, true, false, false, false, false]) (fuel := 4) (v := ?_) rfl (by kernel_rfl) (by kernel_rfl) (by kernel_rfl) (by kernel_rfl) (by kernel_rfl) (fun _ _ _ h => h) (by kernel_rfl) ?_ (by assumption) ?_
            rotate_left 1
            · (intro wS hSw; (try dsimp only at hSw); go_simp; try with_reducible rfl)
            try simp only [Act.put, List.setIfInBounds_toArray, List.set_cons_zero, List.set_cons_succ]
            refine rg_take (i := 3) (d := some 29) (l := #[true, true, true, true, false, false, false]) (fuel := 3) (v := ?_) rfl (by kernel_rfl) (by kernel_rfl) (by kernel_rfl) (by kernel_rfl) (by kernel_rfl) (fun _ _ _ h => h) (by kernel_rfl) ?_ (by assumption) ?_
            rotate_left 1
            · (intro wS hSw; (try dsimp only at hSw); go_simp; try with_reducible rfl)
            try simp only [Act.put, List.setIfInBounds_toArray, List.set_cons_zero, List.set_cons_succ]
            refine rg_take (i := 4) (d := some 30) (l := #[true, true, true, true, true, false, false]) (fuel := 2) (v := ?_) rfl (by kernel_rfl) (by kernel_rfl) (by kernel_rfl) (by kernel_rfl) (by kernel_rfl) (fun _ _ _ h => h) (by kernel_rfl) ?_ (by assumption) ?_
            rotate_left 1
            · (intro wS hSw; (try dsimp only at hSw); go_simp; try with_reducible rfl)
            try simp only [Act.put, List.setIfInBounds_toArray, List.set_cons_zero, List.set_cons_succ]
            refine rg_take (i := 5) (d := some 31) (l := #[true, true, true, true, true, true, false]) (fuel := 1) (v := ?_) rfl (by kernel_rfl) (by kernel_rfl) (by kernel_rfl) (by kernel_rfl) (by kernel_rfl) (fun _ _ _ h => h) (by kernel_rfl) ?_ (by assumption) ?_
            rotate_left 1
            · (intro wS hSw; (try dsimp only at hSw); go_simp; try with_reducible rfl)
            try simp only [Act.put, List.setIfInBounds_toArray, List.set_cons_zero, List.set_cons_succ]
            refine rg_take (i := 6) (d := some 32) (l := #[true, true, true, true, true, true, true]) (fuel := 0) (v := ?_) rfl (by kernel_rfl) (by kernel_rfl) (by kernel_rfl) (by kernel_rfl) (by kernel_rfl) (fun _ _ _ h => h) (by kernel_rfl) ?_ (by assumption) ?_
            rotate_left 1
            · (intro wS hSw; (try dsimp only at hSw); go_simp; try with_reducible rfl)
            try simp only [Act.put, List.setIfInBounds_toArray, List.set_cons_zero, List.set_cons_succ]
            refine wpAnyH_done (by kernel_rfl) ?_ _
            go_upto_region 11 with fail
            refine rg_begin (S := fun _ => True) 18 #[false, false, false, false, false, false, false, false, false, false, false, false, false, false, false, false, false, false] (by kernel_rfl) (by kernel_rfl) (by kernel_rfl) ?_ (fun hHeld => ?_)
            · trivial
            have bE := HBD.out.drew
            clear HBD HKD
            generalize World.drew wD = wE at *
            have cF : wE.cell? ad = some (.string f) := by obtain ⟨ad', e', hx⟩ := srow_one (HSS.out.keep bE); injection e' with e'; subst e'; exact hx
            have hE := HH.out.below bE
            have hSZ := bE.size
            obtain ⟨b, c5, w5, hrun, c10b, z10, gb, far, h6, k6, l6⟩ := hE.addE (p := ⟨n, 1, eqB f [117, 112]⟩) (Nat.le_trans hB hSZ) hn
            have c10 : wE.cell? ⟨g, 6, none⟩ = some vE := hE.blk.cell 6
            have c10a : (wE.alloc (.cells #[.int .i64 n, .int .u8 (IntKind.u8.wrap 1), .bool (f.toList == [117, 112])] 31)).cell? ⟨g, 6, none⟩ = some vE := (hE.blk.alloc _).cell 6
            have HW : Hid (RTakeR B g (rtdL g vP vV vC vR vE) RR w' (.returned (.int .i64 0)) (w5.setCell ⟨g, 6, none⟩ (.slice (some ⟨b, 0, none⟩) (td.edges.length + 1) c5))) := Lib.hid (by rw [HR.out]; exact ⟨rfl, (Kp.of_below bE).trans k6 (fun x hx => Or.inl hx), fun _ => ⟨_, _, _, _, _, h6, fun x hx => (l6 x hx).imp id (fun hh => Nat.le_trans hSZ hh)⟩⟩)
            have RUN := Lib.hid hrun
            clear hrun gb far h6 k6 l6 hE bE
            obtain ⟨TN, hTN⟩ : ∃ m, td.edges.length + 1 = m := ⟨_, rfl⟩
            rw [hTN] at RUN HW
            clear hTN
            refine rg_take (i := 0) (d := some 33) (l := #[true, false, false, false, false, false, false, false, false, false, false, false, false, false, false, false, false, false]) (fuel := 17) (v := ?_) rfl (by kernel_rfl) (by kernel_rfl) (by kernel_rfl) (by kernel_rfl) (by kernel_rfl) (fun _ _ _ h => h) (by kernel_rfl) ?_ (by assumption) ?_
            rotate_left 1
            · (intro wS hSw; (try dsimp only at hSw); go_simp; try with_reducible rfl)
            try simp only [Act.put, List.setIfInBounds_toArray, List.set_cons_zero, List.set_cons_succ]
            refine rg_take (i := 1) (d := some 34) (l := #[true, true, false, false, false, false, false, false, false, false, false, false, false, false, false, false, false, false]) (fuel := 16) (v := ?_) rfl (by kernel_rfl) (by kernel_rfl) (by kernel_rfl) (by kernel_rfl) (by kernel_rfl) (fun _ _ _ h => h) (by kernel_rfl) ?_ (by assumption) ?_
            rotate_left 1
            · (intro wS hSw; (try dsimp only at hSw); go_simp; try with_reducible rfl)
            try simp only [Act.put, List.setIfInBounds_toArray, List.set_cons_zero, List.set_cons_succ]
            refine rg_take (i := 2) (d := some 35) (l := #[true, true, true, false, false, false, false, false, false, false, false, false, false, false, false, false, false, false]) (fuel := 15) (v := ?_) rfl (by kernel_rfl) (by kernel_rfl) (by kernel_rfl) (by kernel_rfl) (by kernel_rfl) (fun _ _ _ h => h) (by kernel_rfl) ?_ (by assumption) ?_
            rotate_left 1
            · (intro wS hSw; (try dsimp only at hSw); go_simp; try with_reducible rfl)
            try simp only [Act.put, List.setIfInBounds_toArray, List.set_cons_zero, List.set_cons_succ]
            refine rg_take (i := 3) (d := some 36) (l := #[true, true, true, true, false, false, false, false, false, false, false, false, false, false, false, false, false, false]) (fuel := 14) (v := ?_) rfl (by kernel_rfl) (by kernel_rfl) (by kernel_rfl) (by kernel_rfl) (by kernel_rfl) (fun _ _ _ h => h) (by kernel_rfl) ?_ (by assumption) ?_
            rotate_left 1
            · (intro wS hSw; (try dsimp only at hSw); go_simp; try with_reducible rfl)
            try simp only [Act.put, List.setIfInBounds_toArray, List.set_cons_zero, List.set_cons_succ]
            refine rg_take (i := 5) (d := some 38) (l := #[true, true, true, true, false, true, false, false, false, false, false, false, false, false, false, false, false, false]) (fuel := 13) (v := ?_) rfl (by kernel_rfl) (by kernel_rfl) (by kernel_rfl) (by kernel_rfl) (by kernel_rfl) (fun _ _ _ h => h) (by kernel_rfl) ?_ (by assumption) ?_
            rotate_left 1
            · (intro wS hSw; (try dsimp only at hSw); go_simp; try with_reducible rfl)
            try simp only [Act.put, List.setIfInBounds_toArray, List.set_cons_zero, List.set_cons_succ]
            refine rg_take (i := 6) (d := some 39) (l := #[true, true, true, true, false, true, true, false, false, false, false, false, false, false, false, false, false, false]) (fuel := 12) (v := ?_) rfl (by kernel_rfl) (by kernel_rfl) (by kernel_rfl) (by kernel_rfl) (by kernel_rfl) (fun _ _ _ h => h) (by kernel_rfl) ?_ (by assumption) ?_
            rotate_left 1
            · (intro wS hSw; (try dsimp only at hSw); go_simp; try with_reducible rfl)
            try simp only [Act.put, List.setIfInBounds_toArray, List.set_cons_zero, List.set_cons_succ]
            refine rg_take (i := 7) (d := some 40) (l := #[true, true, true, true, false, true, true, true, false, false, false, false, false, false, false, false, false, false]) (fuel := 11) (v := ?_) rfl (by kernel_rfl) (by kernel_rfl) (by kernel_rfl) (by kernel_rfl) (by kernel_rfl) (fun _ _ _ h => h) (by kernel_rfl) ?_ (by assumption) ?_
            rotate_left 1
            · (intro wS hSw; (try dsimp only at hSw); go_simp; try with_reducible rfl)
            try simp only [Act.put, List.setIfInBounds_toArray, List.set_cons_zero, List.set_cons_succ]
            refine rg_take (i := 8) (d := some 41) (l := #[true, true, true, true, false, true, true, true, true, false, false, false, false, false, false, false, false, false]) (fuel := 10) (v := ?_) rfl (by kernel_rfl) (by kernel_rfl) (by kernel_rfl) (by kernel_rfl) (by kernel_rfl) (fun _ _ _ h => h) (by kernel_rfl) ?_ (by assumption) ?_
            rotate_left 1
            · (intro wS hSw; (try dsimp only at hSw); go_simp; try with_reducible rfl)
            try simp only [Act.put, List.setIfInBounds_toArray, List.set_cons_zero, List.set_cons_succ]
            refine rg_take (i := 9) (d := some 42) (l := #[true, true, true, true, false, true, true, true, true, true, false, false, false, false, false, false, false, false]) (fuel := 9) (v := ?_) rfl (by kernel_rfl) (by kernel_rfl) (by kernel_rfl) (by kernel_rfl) (by kernel_rfl) (fun _ _ _ h => h) (by kernel_rfl) ?_ (by assumption) ?_
            rotate_left 1
            · (intro wS hSw; (try dsimp only at hSw); go_simp; try with_reducible rfl)
            try simp only [Act.put, List.setIfInBounds_toArray, List.set_cons_zero, List.set_cons_succ]
            refine rg_of (rs := [4, 10]) (fuel := 8) (by kernel_rfl) rfl ?_
            refine rg_step (i := 4) (l := #[true, true, true, true, true, true, true, true, true, true, false, false, false, false, false, false, false, false]) rfl (by kernel_rfl) (by kernel_rfl) ?_ ?_
            · intro K hK
              go_simp
              skip
              first | (refine hK.out _ _ ?_ (fun hHeld => ?_)) | (go_wp2_with fail; refine hK.out _ _ ?_ (fun hHeld => ?_))
              · (try dsimp only); skip
              clear hK K
              try simp only [Act.put, List.setIfInBounds_toArray, List.set_cons_zero, List.set_cons_succ]
              refine rg_next (i := 10) (l := #[true, true, true, true, true, true, true, true, true, true, true, false, false, false, false, false, false, false]) (fuel := 7) (by kernel_rfl) rfl (by kernel_rfl) (by kernel_rfl) (fun K hK => ?_)
              go_simp
              skip
              first | (refine hK.out _ _ ?_ (fun hHeld => ?_)) | (go_wp2_with fail; refine hK.out _ _ ?_ (fun hHeld => ?_))
              · (try dsimp only); skip
              clear hK K
              try simp only [Act.put, List.setIfInBounds_toArray, List.set_cons_zero, List.set_cons_succ]
              refine rg_take (i := 11) (d := some 44) (l := #[true, true, true, true, true, true, true, true, true, true, true, true, false, false, false, false, false, false]) (fuel := 6) (v := ?_) rfl (by kernel_rfl) (by kernel_rfl) (by kernel_rfl) (by kernel_rfl) (by kernel_rfl) (fun _ _ _ h => h) (by kernel_rfl) ?_ (by assumption) ?_
              rotate_left 1
              · (intro wS hSw; (try dsimp only at hSw); go_simp; try with_reducible rfl)
              try simp only [Act.put, List.setIfInBounds_toArray, List.set_cons_zero, List.set_cons_succ]
              refine rg_take (i := 12) (d := some 45) (l := #[true, true, true, true, true, true, true, true, true, true, true, true, true, false, false, false, false, false]) (fuel := 5) (v := ?_) rfl (by kernel_rfl) (by kernel_rfl) (by kernel_rfl) (by kernel_rfl) (by kernel_rfl) (fun _ _ _ h => h) (by kernel_rfl) ?_ (by assumption) ?_
              rotate_left 1
              · (intro wS hSw; (try dsimp only at hSw); go_simp; try with_reducible rfl)
              try simp only [Act.put, List.setIfInBounds_toArray, List.set_cons_zero, List.set_cons_succ]
              refine rg_next (i := 13) (l := #[true, true, true, true, true, true, true, true, true, true, true, true, true, true, false, false, false, false]) (fuel := 4) (by kernel_rfl) rfl (by kernel_rfl) (by kernel_rfl) (fun K hK => ?_)
              go_simp
              skip
              first | (refine hK.out _ _ ?_ (fun hHeld => ?_)) | (go_wp2_with fail; refine hK.out _ _ ?_ (fun hHeld => ?_))
              · (try dsimp only); skip
              clear hK K
              try simp only [Act.put, List.setIfInBounds_toArray, List.set_cons_zero, List.set_cons_succ]
              refine rg_next (i := 14) (l := #[true, true, true, true, true, true, true, true, true, true, true, true, true, true, true, false, false, false]) (fuel := 3) (by kernel_rfl) rfl (by kernel_rfl) (by kernel_rfl) (fun K hK => ?_)
              refine wp_append_anyC (.tmp 37) (.tmp 46) 25 rfl rfl rfl RUN.out ?_
              refine hK.out _ _ ?_ (fun hHeld => ?_)
              · (try dsimp only); skip
              clear hK K
              try simp only [Act.put, List.setIfInBounds_toArray, List.set_cons_zero, List.set_cons_succ]
              refine rg_take (i := 15) (d := some 48) (l := #[true, true, true, true, true, true, true, true, true, true, true, true, true, true, true, true, false, false]) (fuel := 2) (v := ?_) rfl (by kernel_rfl) (by kernel_rfl) (by kernel_rfl) (by kernel_rfl) (by kernel_rfl) (fun _ _ _ h => h) (by kernel_rfl) ?_ (by assumption) ?_
              rotate_left 1
              · (intro wS hSw; (try dsimp only at hSw); go_simp; try with_reducible rfl)
              try simp only [Act.put, List.setIfInBounds_toArray, List.set_cons_zero, List.set_cons_succ]
              refine rg_take (i := 16) (d := some 49) (l := #[true, true, true, true, true, true, true, true, true, true, true, true, true, true, true, true, true, false]) (fuel := 1) (v := ?_) rfl (by kernel_rfl) (by kernel_rfl) (by kernel_rfl) (by kernel_rfl) (by kernel_rfl) (fun _ _ _ h => h) (by kernel_rfl) ?_ (by assumption) ?_
              rotate_left 1
              · (intro wS hSw; (try dsimp only at hSw); go_simp; try with_reducible rfl)
              try simp only [Act.put, List.setIfInBounds_toArray, List.set_cons_zero, List.set_cons_succ]
              refine rg_next (i := 17) (l := #[true, true, true, true, true, true, true, true, true, true, true, true, true, true, true, true, true, true]) (fuel := 0) (by kernel_rfl) rfl (by kernel_rfl) (by kernel_rfl) (fun K hK => ?_)
              go_simp
              skip
              first | (refine hK.out _ _ ?_ (fun hHeld => ?_)) | (go_wp2_with fail; refine hK.out _ _ ?_ (fun hHeld => ?_))
              · (try dsimp only); skip
              clear hK K
              try simp only [Act.put, List.setIfInBounds_toArray, List.set_cons_zero, List.set_cons_succ]
              refine wpAnyH_done (by kernel_rfl) ?_ _
              go_wp2_with fail
              go_ret
              exact HW.out
            refine rg_step (i := 10) (l := #[true, true, true, true, false, true, true, true, true, true, true, false, false, false, false, false, false, false]) rfl (by kernel_rfl) (by kernel_rfl) ?_ ?_
            · intro K hK
              go_simp
              skip
              first | (refine hK.out _ _ ?_ (fun hHeld => ?_)) | (go_wp2_with fail; refine hK.out _ _ ?_ (fun hHeld => ?_))
              · (try dsimp only); skip
              clear hK K
              try simp only [Act.put, List.setIfInBounds_toArray, List.set_cons_zero, List.set_cons_succ]
              refine rg_take (i := 11) (d := some 44) (l := #[true, true, true, true, false, true, true, true, true, true, true, true, false, false, false, false, false, false]) (fuel := 7) (v := ?_) rfl (by kernel_rfl) (by kernel_rfl) (by kernel_rfl) (by kernel_rfl) (by kernel_rfl) (fun _ _ _ h => h) (by kernel_rfl) ?_ (by assumption) ?_
              rotate_left 1
              · (intro wS hSw; (try dsimp only at hSw); go_simp; try with_reducible rfl)
              try simp only [Act.put, List.setIfInBounds_toArray, List.set_cons_zero, List.set_cons_succ]
              refine rg_take (i := 12) (d := some 45) (l := #[true, true, true, true, false, true, true, true, true, true, true, true, true, false, false, false, false, false]) (fuel := 6) (v := ?_) rfl (by kernel_rfl) (by kernel_rfl) (by kernel_rfl) (by kernel_rfl) (by kernel_rfl) (fun _ _ _ h => h) (by kernel_rfl) ?_ (by assumption) ?_
              rotate_left 1
              · (intro wS hSw; (try dsimp only at hSw); go_simp; try with_reducible rfl)
              try simp only [Act.put, List.setIfInBounds_toArray, List.set_cons_zero, List.set_cons_succ]
              refine rg_of (rs := [4, 13]) (fuel := 5) (by kernel_rfl) rfl ?_
              refine rg_step (i := 4) (l := #[true, true, true, true, true, true, true, true, true, true, true, true, true, false, false, false, false, false]) rfl (by kernel_rfl) (by kernel_rfl) ?_ ?_
              · intro K hK
                go_simp
                skip
                first | (refine hK.out _ _ ?_ (fun hHeld => ?_)) | (go_wp2_with fail; refine hK.out _ _ ?_ (fun hHeld => ?_))
                · (try dsimp only); skip
                clear hK K
                try simp only [Act.put, List.setIfInBounds_toArray, List.set_cons_zero, List.set_cons_succ]
                refine rg_next (i := 13) (l := #[true, true, true, true, true, true, true, true, true, true, true, true, true, true, false, false, false, false]) (fuel := 4) (by kernel_rfl) rfl (by kernel_rfl) (by kernel_rfl) (fun K hK => ?_)
                go_simp
                skip
                first | (refine hK.out _ _ ?_ (fun hHeld => ?_)) | (go_wp2_with fail; refine hK.out _ _ ?_ (fun hHeld => ?_))
                · (try dsimp only); skip
                clear hK K
                try simp only [Act.put, List.setIfInBounds_toArray, List.set_cons_zero, List.set_cons_succ]
                refine rg_next (i := 14) (l := #[true, true, true, true, true, true, true, true, true, true, true, true, true, true, true, false, false, false]) (fuel := 3) (by kernel_rfl) rfl (by kernel_rfl) (by kernel_rfl) (fun K hK => ?_)
                refine wp_append_anyC (.tmp 37) (.tmp 46) 25 rfl rfl rfl RUN.out ?_
                refine hK.out _ _ ?_ (fun hHeld => ?_)
                · (try dsimp only); skip
                clear hK K
                try simp only [Act.put, List.setIfInBounds_toArray, List.set_cons_zero, List.set_cons_succ]
                refine rg_take (i := 15) (d := some 48) (l := #[true, true, true, true, true, true, true, true, true, true, true, true, true, true, true, true, false, false]) (fuel := 2) (v := ?_) rfl (by kernel_rfl) (by kernel_rfl) (by kernel_rfl) (by kernel_rfl) (by kernel_rfl) (fun _ _ _ h => h) (by kernel_rfl) ?_ (by assumption) ?_
                rotate_left 1
                · (intro wS hSw; (try dsimp only at hSw); go_simp; try with_reducible rfl)
                try simp only [Act.put, List.setIfInBounds_toArray, List.set_cons_zero, List.set_cons_succ]
                refine rg_take (i := 16) (d := some 49) (l := #[true, true, true, true, true, true, true, true, true, true, true, true, true, true, true, true, true, false]) (fuel := 1) (v := ?_) rfl (by kernel_rfl) (by kernel_rfl) (by kernel_rfl) (by kernel_rfl) (by kernel_rfl) (fun _ _ _ h => h) (by kernel_rfl) ?_ (by assumption) ?_
                rotate_left 1
                · (intro wS hSw; (try dsimp only at hSw); go_simp; try with_reducible rfl)
                try simp only [Act.put, List.setIfInBounds_toArray, List.set_cons_zero, List.set_cons_succ]
                refine rg_next (i := 17) (l := #[true, true, true, true, true, true, true, true, true, true, true, true, true, true, true, true, true, true]) (fuel := 0) (by kernel_rfl) rfl (by kernel_rfl) (by kernel_rfl) (fun K hK => ?_)
                go_simp
                skip
                first | (refine hK.out _ _ ?_ (fun hHeld => ?_)) | (go_wp2_with fail; refine hK.out _ _ ?_ (fun hHeld => ?_))
                · (try dsimp only); skip
                clear hK K
                try simp only [Act.put, List.setIfInBounds_toArray, List.set_cons_zero, List.set_cons_succ]
                refine wpAnyH_done (by kernel_rfl) ?_ _
                go_wp2_with fail
                go_ret
                exact HW.out
              refine rg_step (i := 13) (l := #[true, true, true, true, false, true, true, true, true, true, true, true, true, true, false, false, false, false]) rfl (by kernel_rfl) (by kernel_rfl) ?_ ?_
              · intro K hK
                go_simp
                skip
                first | (refine hK.out _ _ ?_ (fun hHeld => ?_)) | (go_wp2_with fail; refine hK.out _ _ ?_ (fun hHeld => ?_))
                · (try dsimp only); skip
                clear hK K
                try simp only [Act.put, List.setIfInBounds_toArray, List.set_cons_zero, List.set_cons_succ]
                refine rg_next (i := 4) (l := #[true, true, true, true, true, true, true, true, true, true, true, true, true, true, false, false, false, false]) (fuel := 4) (by kernel_rfl) rfl (by kernel_rfl) (by kernel_rfl) (fun K hK => ?_)
                go_simp
                skip
                first | (refine hK.out _ _ ?_ (fun hHeld => ?_)) | (go_wp2_with fail; refine hK.out _ _ ?_ (fun hHeld => ?_))
                · (try dsimp only); skip
                clear hK K
                try simp only [Act.put, List.setIfInBounds_toArray, List.set_cons_zero, List.set_cons_succ]
                refine rg_next (i := 14) (l := #[true, true, true, true, true, true, true, true, true, true, true, true, true, true, true, false, false, false]) (fuel := 3) (by kernel_rfl) rfl (by kernel_rfl) (by kernel_rfl) (fun K hK => ?_)
                refine wp_append_anyC (.tmp 37) (.tmp 46) 25 rfl rfl rfl RUN.out ?_
                refine hK.out _ _ ?_ (fun hHeld => ?_)
                · (try dsimp only); skip
                clear hK K
                try simp only [Act.put, List.setIfInBounds_toArray, List.set_cons_zero, List.set_cons_succ]
                refine rg_take (i := 15) (d := some 48) (l := #[true, true, true, true, true, true, true, true, true, true, true, true, true, true, true, true, false, false]) (fuel := 2) (v := ?_) rfl (by kernel_rfl) (by kernel_rfl) (by kernel_rfl) (by kernel_rfl) (by kernel_rfl) (fun _ _ _ h => h) (by kernel_rfl) ?_ (by assumption) ?_
                rotate_left 1
                · (intro wS hSw; (try dsimp only at hSw); go_simp; try with_reducible rfl)
                try simp only [Act.put, List.setIfInBounds_toArray, List.set_cons_zero, List.set_cons_succ]
                refine rg_take (i := 16) (d := some 49) (l := #[true, true, true, true, true, true, true, true, true, true, true, true, true, true, true, true, true, false]) (fuel := 1) (v := ?_) rfl (by kernel_rfl) (by kernel_rfl) (by kernel_rfl) (by kernel_rfl) (by kernel_rfl) (fun _ _ _ h => h) (by kernel_rfl) ?_ (by assumption) ?_
                rotate_left 1
                · (intro wS hSw; (try dsimp only at hSw); go_simp; try with_reducible rfl)
                try simp only [Act.put, List.setIfInBounds_toArray, List.set_cons_zero, List.set_cons_succ]
                refine rg_next (i := 17) (l := #[true, true, true, true, true, true, true, true, true, true, true, true, true, true, true, true, true, true]) (fuel := 0) (by kernel_rfl) rfl (by kernel_rfl) (by kernel_rfl) (fun K hK => ?_)
                go_simp
                skip
                first | (refine hK.out _ _ ?_ (fun hHeld => ?_)) | (go_wp2_with fail; refine hK.out _ _ ?_ (fun hHeld => ?_))
                · (try dsimp only); skip
                clear hK K
                try simp only [Act.put, List.setIfInBounds_toArray, List.set_cons_zero, List.set_cons_succ]
                refine wpAnyH_done (by kernel_rfl) ?_ _
                go_wp2_with fail
                go_ret
                exact HW.out
              exact AllReadyH.nil
            exact AllReadyH.nil
          | false =>
            have hb1 : (y.toList == [110, 109, 105]) = false := hb
            have hb2 : ([110, 109, 105] == y.toList) = false := by rw [← hb1]; exact beq_sym_ _ _
            have cN : wr.cell? ⟨nb, 1, none⟩ = some (.string ⟨#[110, 109, 105]⟩) := HBK.out.cell 1
            have cY : wr.cell? ⟨ad.block, ad.off + 2, none⟩ = some (.string y) := by obtain ⟨ad', e', _, _, hx⟩ := srow_three (HSS.out.keep HBL.out); injection e' with e'; subst e'; exact hx
            go_upto_region 10 with fail
            refine rg_begin (S := fun wS => wS.cell? ⟨nb, 1, none⟩ = some (.string ⟨#[110, 109, 105]⟩) ∧ wS.cell? ⟨ad.block, ad.off + 2, none⟩ = some (.string y)) 7 #[false, false, false, false, false, false, false] (by kernel_rfl) (by kernel_rfl) (by kernel_rfl) ?_ (fun hHeld => ?_)
            · exact ⟨cN, cY⟩
            have bD := HBL.out.drew
            have kD : Blk (World.drew wr) nb 109 nmA := HBK.out.kp (Kp.refl [] _).drew (by simp)
            clear HBL HBK cN cY
            generalize World.drew wr = wD at *
            have HBD := Lib.hid bD
            have HKD := Lib.hid kD
            clear bD kD
            refine rg_take (i := 0) (d := some 26) (l := #[true, false, false, false, false, false, false]) (fuel := 6) (v := ?_) rfl (by kernel_rfl) (by kernel_rfl) (by kernel_rfl) (by kernel_rfl) (by kernel_rfl) (fun _ _ _ h => h) (by kernel_rfl) ?_ (by assumption) ?_
            rotate_left 1
            · (intro wS hSw; (try dsimp only at hSw); go_simp; try with_reducible rfl)
            try simp only [Act.put, List.setIfInBounds_toArray, List.set_cons_zero, List.set_cons_succ]
            refine rg_take (i := 1) (d := some 27) (l := #[true, true, false, false, false, false, false]) (fuel := 5) (v := ?_) rfl (by kernel_rfl) (by kernel_rfl) (by kernel_rfl) (by kernel_rfl) (by kernel_rfl) (fun _ _ _ h => h) (by kernel_rfl) ?_ (by assumption) ?_
            rotate_left 1
            · (intro wS hSw; (try dsimp only at hSw); go_simp; try with_reducible rfl)
            try simp only [Act.put, List.setIfInBounds_toArray, List.set_cons_zero, List.set_cons_succ]
            refine rg_take (i := 2) (d := some 28) (l := #[true, true, true, false, false, false, false]) (fuel := 4) (v := ?_) rfl (by kernel_rfl) (by kernel_rfl) (by kernel_rfl) (by kernel_rfl) (by kernel_rfl) (fun _ _ _ h => h) (by kernel_rfl) ?_ (by assumption) ?_
            rotate_left 1
            · (intro wS hSw; (try dsimp only at hSw); go_simp; try with_reducible rfl)
            try simp only [Act.put, List.setIfInBounds_toArray, List.set_cons_zero, List.set_cons_succ]
            refine rg_take (i := 3) (d := some 29) (l := #[true, true, true, true, false, false, false]) (fuel := 3) (v := ?_) rfl (by kernel_rfl) (by kernel_rfl) (by kernel_rfl) (by kernel_rfl) (by kernel_rfl) (fun _ _ _ h => h) (by kernel_rfl) ?_ (by assumption) ?_
            rotate_left 1
            · (intro wS hSw; (try dsimp only at hSw); go_simp; try with_reducible rfl)
            try simp only [Act.put, List.setIfInBounds_toArray, List.set_cons_zero, List.set_cons_succ]
            refine rg_take (i := 4) (d := some 30) (l := #[true, true, true, true, true, false, false]) (fuel := 2) (v := ?_) rfl (by kernel_rfl) (by kernel_rfl) (by kernel_rfl) (by kernel_rfl) (by kernel_rfl) (fun _ _ _ h => h) (by kernel_rfl) ?_ (by assumption) ?_
            rotate_left 1
            · (intro wS hSw; (try dsimp only at hSw); go_simp; try with_reducible rfl)
            try simp only [Act.put, List.setIfInBounds_toArray, List.set_cons_zero, List.set_cons_succ]
            refine rg_take (i := 5) (d := some 31) (l := #[true, true, true, true, true, true, false]) (fuel := 1) (v := ?_) rfl (by kernel_rfl) (by kernel_rfl) (by kernel_rfl) (by kernel_rfl) (by kernel_rfl) (fun _ _ _ h => h) (by kernel_rfl) ?_ (by assumption) ?_
            rotate_left 1
            · (intro wS hSw; (try dsimp only at hSw); go_simp; try with_reducible rfl)
            try simp only [Act.put, List.setIfInBounds_toArray, List.set_cons_zero, List.set_cons_succ]
            refine rg_take (i := 6) (d := some 32) (l := #[true, true, true, true, true, true, true]) (fuel := 0) (v := ?_) rfl (by kernel_rfl) (by kernel_rfl) (by kernel_rfl) (by kernel_rfl) (by kernel_rfl) (fun _ _ _ h => h) (by kernel_rfl) ?_ (by assumption) ?_
            rotate_left 1
            · (intro wS hSw; (try dsimp only at hSw); go_simp; try with_reducible rfl)
            try simp only [Act.put, List.setIfInBounds_toArray, List.set_cons_zero, List.set_cons_succ]
            refine wpAnyH_done (by kernel_rfl) ?_ _
            go_wp2_with fail
            go_roundw
            case rel => exact ⟨2, by omega, by go_num, HBD.out, HKD.out, fun j hj => (Nat.lt_succ_iff_lt_or_eq.1 hj).elim (HNO.out j) fun e => by subst e; exact hb⟩
            case measure => simp [intOf]
        · rw [show (((2 : Nat) : Int)) = 2 from rfl]
          cases hb : eqB y (nmL 2) with
          | true =>
            have hb1 : (y.toList == [105, 114, 113, 49]) = true := hb
            have hb2 : ([105, 114, 113, 49] == y.toList) = true := by rw [← hb1]; exact beq_sym_ _ _
            have q0 : eqB y [114, 101, 115, 101, 116] = false := HNO.out 0 (by omega)
            have q1 : eqB y [110, 109, 105] = false := HNO.out 1 (by omega)
            have hI : nameI y = some 2 := by
              unfold nameI
              have q2 : eqB y [105, 114, 113, 49] = true := hb
              simp only [q0, q1, q2, if_true, Bool.false_eq_true, if_false]
            have HR : Hid (RR = (0, { td with edges := td.edges ++ [⟨n, 2, eqB f [117, 112]⟩] })) := Lib.hid (by have := HT.out; rw [hI] at this; exact this)
            clear hI hb q0 q1 HNO
            have cN : wr.cell? ⟨nb, 2, none⟩ = some (.string ⟨#[105, 114, 113, 49]⟩) := HBK.out.cell 2
            have cY : wr.cell? ⟨ad.block, ad.off + 2, none⟩ = some (.string y) := by obtain ⟨ad', e', _, _, hx⟩ := srow_three (HSS.out.keep HBL.out); injection e' with e'; subst e'; exact hx
            go_upto_region 10 with fail
            refine rg_begin (S := fun wS => wS.cell? ⟨nb, 2, none⟩ = some (.string ⟨#[105, 114, 113, 49]⟩) ∧ wS.cell? ⟨ad.block, ad.off + 2, none⟩ = some (.string y)) 7 #[false, false, false, false, false, false, false] (by kernel_rfl) (by kernel_rfl) (by kernel_rfl) ?_ (fun hHeld => ?_)
            · exact ⟨cN, cY⟩
            have bD := HBL.out.drew
            have kD : Blk (World.drew wr) nb 109 nmA := HBK.out.kp (Kp.refl [] _).drew (by simp)
            clear HBL HBK cN cY
            generalize World.drew wr = wD at *
            have HBD := Lib.hid bD
            have HKD := Lib.hid kD
            clear bD kD
            refine rg_take (i := 0) (d := some 26) (l := #[true, false, false, false, false, false, false]) (fuel := 6) (v := ?_) rfl (by kernel_rfl) (by kernel_rfl) (by kernel_rfl) (by kernel_rfl) (by kernel_rfl) (fun _ _ _ h => h) (by kernel_rfl) ?_ (by assumption) ?_
            rotate_left 1
            · (intro wS hSw; (try dsimp only at hSw); go_simp; try with_reducible rfl)
            try simp only [Act.put, List.setIfInBounds_toArray, List.set_cons_zero, List.set_cons_succ]
            refine rg_take (i := 1) (d := some 27) (l := #[true, true, false, false, false, false, false]) (fuel := 5) (v := ?_) rfl (by kernel_rfl) (by kernel_rfl) (by kernel_rfl) (by kernel_rfl) (by kernel_rfl) (fun _ _ _ h => h) (by kernel_rfl) ?_ (by assumption) ?_
            rotate_left 1
            · (intro wS hSw; (try dsimp only at hSw); go_simp; try with_reducible rfl)
            try simp only [Act.put, List.setIfInBounds_toArray, List.set_cons_zero, List.set_cons_succ]
            refine rg_take (i := 2) (d := some 28) (l := #[true, true, true, false, false, false, false]) (fuel := 4) (v := ?_) rfl (by kernel_rfl) (by kernel_rfl) (by kernel_rfl) (by kernel_rfl) (by kernel_rfl) (fun _ _ _ h => h) (by kernel_rfl) ?_ (by assumption) ?_
            rotate_left 1
            · (intro wS hSw; (try dsimp only at hSw); go_simp; try with_reducible rfl)
            try simp only [Act.put, List.setIfInBounds_toArray, List.set_cons_zero, List.set_cons_succ]
            refine rg_take (i := 3) (d := some 29) (l := #[true, true, true, true, false, false, false]) (fuel := 3) (v := ?_) rfl (by kernel_rfl) (by kernel_rfl) (by kernel_rfl) (by kernel_rfl) (by kernel_rfl) (fun _ _ _ h => h) (by kernel_rfl) ?_ (by assumption) ?_
            rotate_left 1
            · (intro wS hSw; (try dsimp only at hSw); go_simp; try with_reducible rfl)
            try simp only [Act.put, List.setIfInBounds_toArray, List.set_cons_zero, List.set_cons_succ]
            refine rg_take (i := 4) (d := some 30) (l := #[true, true, true, true, true, false, false]) (fuel := 2) (v := ?_) rfl (by kernel_rfl) (by kernel_rfl) (by kernel_rfl) (by kernel_rfl) (by kernel_rfl) (fun _ _ _ h => h) (by kernel_rfl) ?_ (by assumption) ?_
            rotate_left 1
            · (intro wS hSw; (try dsimp only at hSw); go_simp; try with_reducible rfl)
            try simp only [Act.put, List.setIfInBounds_toArray, List.set_cons_zero, List.set_cons_succ]
            refine rg_take (i := 5) (d := some 31) (l := #[true, true, true, true, true, true, false]) (fuel := 1) (v := ?_) rfl (by kernel_rfl) (by kernel_rfl) (by kernel_rfl) (by kernel_rfl) (by kernel_rfl) (fun _ _ _ h => h) (by kernel_rfl) ?_ (by assumption) ?_
            rotate_left 1
            · (intro wS hSw; (try dsimp only at hSw); go_simp; try with_reducible rfl)
            try simp only [Act.put, List.setIfInBounds_toArray, List.set_cons_zero, List.set_cons_succ]
            refine rg_take (i := 6) (d := some 32) (l := #[true, true, true, true, true, true, true]) (fuel := 0) (v := ?_) rfl (by kernel_rfl) (by kernel_rfl) (by kernel_rfl) (by kernel_rfl) (by kernel_rfl) (fun _ _ _ h => h) (by kernel_rfl) ?_ (by assumption) ?_
            rotate_left 1
            · (intro wS hSw; (try dsimp only at hSw); go_simp; try with_reducible rfl)
            try simp only [Act.put, List.setIfInBounds_toArray, List.set_cons_zero, List.set_cons_succ]
            refine wpAnyH_done (by kernel_rfl) ?_ _
            go_upto_region 11 with fail
            refine rg_begin (S := fun _ => True) 18 #[false, false, false, false, false, false, false, false, false, false, false, false, false, false, false, false, false, false] (by kernel_rfl) (by kernel_rfl) (by kernel_rfl) ?_ (fun hHeld => ?_)
            · trivial
            have bE := HBD.out.drew
            clear HBD HKD
            generalize World.drew wD = wE at *
            have cF : wE.cell? ad = some (.string f) := by obtain ⟨ad', e', hx⟩ := srow_one (HSS.out.keep bE); injection e' with e'; subst e'; exact hx
            have hE := HH.out.below bE
            have hSZ := bE.size
            obtain ⟨b, c5, w5, hrun, c10b, z10, gb, far, h6, k6, l6⟩ := hE.addE (p := ⟨n, 2, eqB f [117, 112]⟩) (Nat.le_trans hB hSZ) hn
            have c10 : wE.cell? ⟨g, 6, none⟩ = some vE := hE.blk.cell 6
            have c10a : (wE.alloc (.cells #[.int .i64 n, .int .u8 (IntKind.u8.wrap 2), .bool (f.toList == [117, 112])] 31)).cell? ⟨g, 6, none⟩ = some vE := (hE.blk.alloc _).cell 6
            have HW : Hid (RTakeR B g (rtdL g vP vV vC vR vE) RR w' (.returned (.int .i64 0)) (w5.setCell ⟨g, 6, none⟩ (.slice (some ⟨b, 0, none⟩) (td.edges.length + 1) c5))) := Lib.hid (by rw [HR.out]; exact ⟨rfl, (Kp.of_below bE).trans k6 (fun x hx => Or.inl hx), fun _ => ⟨_, _, _, _, _, h6, fun x hx => (l6 x hx).imp id (fun hh => Nat.le_trans hSZ hh)⟩⟩)
            have RUN := Lib.hid hrun
            clear hrun gb far h6 k6 l6 hE bE
            obtain ⟨TN, hTN⟩ : ∃ m, td.edges.length + 1 = m := ⟨_, rfl⟩
            rw [hTN] at RUN HW
            clear hTN
            refine rg_take (i := 0) (d := some 33) (l := #[true, false, false, false, false, false, false, false, false, false, false, false, false, false, false, false, false, false]) (fuel := 17) (v := ?_) rfl (by kernel_rfl) (by kernel_rfl) (by kernel_rfl) (by kernel_rfl) (by kernel_rfl) (fun _ _ _ h => h) (by kernel_rfl) ?_ (by assumption) ?_
            rotate_left 1
            · (intro wS hSw; (try dsimp only at hSw); go_simp; try with_reducible rfl)
            try simp only [Act.put, List.setIfInBounds_toArray, List.set_cons_zero, List.set_cons_succ]
            refine rg_take (i := 1) (d := some 34) (l := #[true, true, false, false, false, false, false, false, false, false, false, false, false, false, false, false, false, false]) (fuel := 16) (v := ?_) rfl (by kernel_rfl) (by kernel_rfl) (by kernel_rfl) (by kernel_rfl) (by kernel_rfl) (fun _ _ _ h => h) (by kernel_rfl) ?_ (by assumption) ?_
            rotate_left 1
            · (intro wS hSw; (try dsimp only at hSw); go_simp; try with_reducible rfl)
            try simp only [Act.put, List.setIfInBounds_toArray, List.set_cons_zero, List.set_cons_succ]
            refine rg_take (i := 2) (d := some 35) (l := #[true, true, true, false, false, false, false, false, false, false, false, false, false, false, false, false, false, false]) (fuel := 15) (v := ?_) rfl (by kernel_rfl) (by kernel_rfl) (by kernel_rfl) (by kernel_rfl) (by kernel_rfl) (fun _ _ _ h => h) (by kernel_rfl) ?_ (by assumption) ?_
            rotate_left 1
            · (intro wS hSw; (try dsimp only at hSw); go_simp; try with_reducible rfl)
            try simp only [Act.put, List.setIfInBounds_toArray, List.set_cons_zero, List.set_cons_succ]
            refine rg_take (i := 3) (d := some 36) (l := #[true, true, true, true, false, false, false, false, false, false, false, false, false, false, false, false, false, false]) (fuel := 14) (v := ?_) rfl (by kernel_rfl) (by kernel_rfl) (by kernel_rfl) (by kernel_rfl) (by kernel_rfl) (fun _ _ _ h => h) (by kernel_rfl) ?_ (by assumption) ?_
            rotate_left 1
            · (intro wS hSw; (try dsimp only at hSw); go_simp; try with_reducible rfl)
            try simp only [Act.put, List.setIfInBounds_toArray, List.set_cons_zero, List.set_cons_succ]
            refine rg_take (i := 5) (d := some 38) (l := #[true, true, true, true, false, true, false, false, false, false, false, false, false, false, false, false, false, false]) (fuel := 13) (v := ?_) rfl (by kernel_rfl) (by kernel_rfl) (by kernel_rfl) (by kernel_rfl) (by kernel_rfl) (fun _ _ _ h => h) (by kernel_rfl) ?_ (by assumption) ?_
            rotate_left 1
            · (intro wS hSw; (try dsimp only at hSw); go_simp; try with_reducible rfl)
            try simp only [Act.put, List.setIfInBounds_toArray, List.set_cons_zero, List.set_cons_succ]
            refine rg_take (i := 6) (d := some 39) (l := #[true, true, true, true, false, true, true, false, false, false, false, false, false, false, false, false, false, false]) (fuel := 12) (v := ?_) rfl (by kernel_rfl) (by kernel_rfl) (by kernel_rfl) (by kernel_rfl) (by kernel_rfl) (fun _ _ _ h => h) (by kernel_rfl) ?_ (by assumption) ?_
            rotate_left 1
            · (intro wS hSw; (try dsimp only at hSw); go_simp; try with_reducible rfl)
            try simp only [Act.put, List.setIfInBounds_toArray, List.set_cons_zero, List.set_cons_succ]
            refine rg_take (i := 7) (d := some 40) (l := #[true, true, true, true, false, true, true, true, false, false, false, false, false, false, false, false, false, false]) (fuel := 11) (v := ?_) rfl (by kernel_rfl) (by kernel_rfl) (by kernel_rfl) (by kernel_rfl) (by kernel_rfl) (fun _ _ _ h => h) (by kernel_rfl) ?_ (by assumption) ?_
            rotate_left 1
            · (intro wS hSw; (try dsimp only at hSw); go_simp; try with_reducible rfl)
            try simp only [Act.put, List.setIfInBounds_toArray, List.set_cons_zero, List.set_cons_succ]
            refine rg_take (i := 8) (d := some 41) (l := #[true, true, true, true, false, true, true, true, true, false, false, false, false, false, false, false, false, false]) (fuel := 10) (v := ?_) rfl (by kernel_rfl) (by kernel_rfl) (by kernel_rfl) (by kernel_rfl) (by kernel_rfl) (fun _ _ _ h => h) (by kernel_rfl) ?_ (by assumption) ?_
            rotate_left 1
            · (intro wS hSw; (try dsimp only at hSw); go_simp; try with_reducible rfl)
            try simp only [Act.put, List.setIfInBounds_toArray, List.set_cons_zero, List.set_cons_succ]
            refine rg_take (i := 9) (d := some 42) (l := #[true, true, true, true, false, true, true, true, true, true, false, false, false, false, false, false, false, false]) (fuel := 9) (v := ?_) rfl (by kernel_rfl) (by kernel_rfl) (by kernel_rfl) (by kernel_rfl) (by kernel_rfl) (fun _ _ _ h => h) (by kernel_rfl) ?_ (by assumption) ?_
            rotate_left 1
            · (intro wS hSw; (try dsimp only at hSw); go_simp; try with_reducible rfl)
            try simp only [Act.put, List.setIfInBounds_toArray, List.set_cons_zero, List.set_cons_succ]
            refine rg_of (rs := [4, 10]) (fuel := 8) (by kernel_rfl) rfl ?_
            refine rg_step (i := 4) (l := #[true, true, true, true, true, true, true, true, true, true, false, false, false, false, false, false, false, false]) rfl (by kernel_rfl) (by kernel_rfl) ?_ ?_
            · intro K hK
              go_simp
              skip
              first | (refine hK.out _ _ ?_ (fun hHeld => ?_)) | (go_wp2_with fail; refine hK.out _ _ ?_ (fun hHeld => ?_))
              · (try dsimp only); skip
              clear hK K
              try simp only [Act.put, List.setIfInBounds_toArray, List.set_cons_zero, List.set_cons_succ]
              refine rg_next (i := 10) (l := #[true, true, true, true, true, true, true, true, true, true, true, false, false, false, false, false, false, false]) (fuel := 7) (by kernel_rfl) rfl (by kernel_rfl) (by kernel_rfl) (fun K hK => ?_)
              go_simp
              skip
              first | (refine hK.out _ _ ?_ (fun hHeld => ?_)) | (go_wp2_with fail; refine hK.out _ _ ?_ (fun hHeld => ?_))
              · (try dsimp only); skip
              clear hK K
              try simp only [Act.put, List.setIfInBounds_toArray, List.set_cons_zero, List.set_cons_succ]
              refine rg_take (i := 11) (d := some 44) (l := #[true, true, true, true, true, true, true, true, true, true, true, true, false, false, false, false, false, false]) (fuel := 6) (v := ?_) rfl (by kernel_rfl) (by kernel_rfl) (by kernel_rfl) (by kernel_rfl) (by kernel_rfl) (fun _ _ _ h => h) (by kernel_rfl) ?_ (by assumption) ?_
              rotate_left 1
              · (intro wS hSw; (try dsimp only at hSw); go_simp; try with_reducible rfl)
              try simp only [Act.put, List.setIfInBounds_toArray, List.set_cons_zero, List.set_cons_succ]
              refine rg_take (i := 12) (d := some 45) (l := #[true, true, true, true, true, true, true, true, true, true, true, true, true, false, false, false, false, false]) (fuel := 5) (v := ?_) rfl (by kernel_rfl) (by kernel_rfl) (by kernel_rfl) (by kernel_rfl) (by kernel_rfl) (fun _ _ _ h => h) (by kernel_rfl) ?_ (by assumption) ?_
              rotate_left 1
              · (intro wS hSw; (try dsimp only at hSw); go_simp; try with_reducible rfl)
              try simp only [Act.put, List.setIfInBounds_toArray, List.set_cons_zero, List.set_cons_succ]
              refine rg_next (i := 13) (l := #[true, true, true, true, true, true, true, true, true, true, true, true, true, true, false, false, false, false]) (fuel := 4) (by kernel_rfl) rfl (by kernel_rfl) (by kernel_rfl) (fun K hK => ?_)
              go_simp
              skip
              first | (refine hK.out _ _ ?_ (fun hHeld => ?_)) | (go_wp2_with fail; refine hK.out _ _ ?_ (fun hHeld => ?_))
              · (try dsimp only); skip
              clear hK K
              try simp only [Act.put, List.setIfInBounds_toArray, List.set_cons_zero, List.set_cons_succ]
              refine rg_next (i := 14) (l := #[true, true, true, true, true, true, true, true, true, true, true, true, true, true, true, false, false, false]) (fuel := 3) (by kernel_rfl) rfl (by kernel_rfl) (by kernel_rfl) (fun K hK => ?_)
              refine wp_append_anyC (.tmp 37) (.tmp 46) 25 rfl rfl rfl RUN.out ?_
              refine hK.out _ _ ?_ (fun hHeld => ?_)
              · (try dsimp only); skip
              clear hK K
              try simp only [Act.put, List.setIfInBounds_toArray, List.set_cons_zero, List.set_cons_succ]
              refine rg_take (i := 15) (d := some 48) (l := #[true, true, true, true, true, true, true, true, true, true, true, true, true, true, true, true, false, false]) (fuel := 2) (v := ?_) rfl (by kernel_rfl) (by kernel_rfl) (by kernel_rfl) (by kernel_rfl) (by kernel_rfl) (fun _ _ _ h => h) (by kernel_rfl) ?_ (by assumption) ?_
              rotate_left 1
              · (intro wS hSw; (try dsimp only at hSw); go_simp; try with_reducible rfl)
              try simp only [Act.put, List.setIfInBounds_toArray, List.set_cons_zero, List.set_cons_succ]
              refine rg_take (i := 16) (d := some 49) (l := #[true, true, true, true, true, true, true, true, true, true, true, true, true, true, true, true, true, false]) (fuel := 1) (v := ?_) rfl (by kernel_rfl) (by kernel_rfl) (by kernel_rfl) (by kernel_rfl) (by kernel_rfl) (fun _ _ _ h => h) (by kernel_rfl) ?_ (by assumption) ?_
              rotate_left 1
              · (intro wS hSw; (try dsimp only at hSw); go_simp; try with_reducible rfl)
              try simp only [Act.put, List.setIfInBounds_toArray, List.set_cons_zero, List.set_cons_succ]
              refine rg_next (i := 17) (l := #[true, true, true, true, true, true, true, true, true, true, true, true, true, true, true, true, true, true]) (fuel := 0) (by kernel_rfl) rfl (by kernel_rfl) (by kernel_rfl) (fun K hK => ?_)
              go_simp
              skip
              first | (refine hK.out _ _ ?_ (fun hHeld => ?_)) | (go_wp2_with fail; refine hK.out _ _ ?_ (fun hHeld => ?_))
              · (try dsimp only); skip
              clear hK K
              try simp only [Act.put, List.setIfInBounds_toArray, List.set_cons_zero, List.set_cons_succ]
              refine wpAnyH_done (by kernel_rfl) ?_ _
              go_wp2_with fail
              go_ret
              exact HW.out
            refine rg_step (i := 10) (l := #[true, true, true, true, false, true, true, true, true, true, true, false, false, false, false, false, false, false]) rfl (by kernel_rfl) (by kernel_rfl) ?_ ?_
            · intro K hK
              go_simp
              skip
              first | (refine hK.out _ _ ?_ (fun hHeld => ?_)) | (go_wp2_with fail; refine hK.out _ _ ?_ (fun hHeld => ?_))
              · (try dsimp only); skip
              clear hK K
              try simp only [Act.put, List.setIfInBounds_toArray, List.set_cons_zero, List.set_cons_succ]
              refine rg_take (i := 11) (d := some 44) (l := #[true, true, true, true, false, true, true, true, true, true, true, true, false, false, false, false, false, false]) (fuel := 7) (v := ?_) rfl (by kernel_rfl) (by kernel_rfl) (by kernel_rfl) (by kernel_rfl) (by kernel_rfl) (fun _ _ _ h => h) (by kernel_rfl) ?_ (by assumption) ?_
              rotate_left 1
              · (intro wS hSw; (try dsimp only at hSw); go_simp; try with_reducible rfl)
              try simp only [Act.put, List.setIfInBounds_toArray, List.set_cons_zero, List.set_cons_succ]
              refine rg_take (i := 12) (d := some 45) (l := #[true, true, true, true, false, true, true, true, true, true, true, true, true, false, false, false, false, false]) (fuel := 6) (v := ?_) rfl (by kernel_rfl) (by kernel_rfl) (by kernel_rfl) (by kernel_rfl) (by kernel_rfl) (fun _ _ _ h => h) (by kernel_rfl) ?_ (by assumption) ?_
              rotate_left 1
              · (intro wS hSw; (try dsimp only at hSw); go_simp; try with_reducible rfl)
              try simp only [Act.put, List.setIfInBounds_toArray, List.set_cons_zero, List.set_cons_succ]
              refine rg_of (rs := [4, 13]) (fuel := 5) (by kernel_rfl) rfl ?_
              refine rg_step (i := 4) (l := #[true, true, true, true, true, true, true, true, true, true, true, true, true, false, false, false, false, false]) rfl (by kernel_rfl) (by kernel_rfl) ?_ ?_
              · intro K hK
                go_simp
                skip
                first | (refine hK.out _ _ ?_ (fun hHeld => ?_)) | (go_wp2_with fail; refine hK.out _ _ ?_ (fun hHeld => ?_))
                · (try dsimp only); skip
                clear hK K
                try simp only [Act.put, List.setIfInBounds_toArray, List.set_cons_zero, List.set_cons_succ]
                refine rg_next (i := 13) (l := #[true, true, true, true, true, true, true, true, true, true, true, true, true, true, false, false, false, false]) (fuel := 4) (by kernel_rfl) rfl (by kernel_rfl) (by kernel_rfl) (fun K hK => ?_)
                go_simp
                skip
                first | (refine hK.out _ _ ?_ (fun hHeld => ?_)) | (go_wp2_with fail; refine hK.out _ _ ?_ (fun hHeld => ?_))
                · (try dsimp only); skip
                clear hK K
                try simp only [Act.put, List.setIfInBounds_toArray, List.set_cons_zero, List.set_cons_succ]
                refine rg_next (i := 14) (l := #[true, true, true, true, true, true, true, true, true, true, true, true, true, true, true, false, false, false]) (fuel := 3) (by kernel_rfl) rfl (by kernel_rfl) (by kernel_rfl) (fun K hK => ?_)
                refine wp_append_anyC (.tmp 37) (.tmp 46) 25 rfl rfl rfl RUN.out ?_
                refine hK.out _ _ ?_ (fun hHeld => ?_)
                · (try dsimp only); skip
                clear hK K
                try simp only [Act.put, List.setIfInBounds_toArray, List.set_cons_zero, List.set_cons_succ]
                refine rg_take (i := 15) (d := some 48) (l := #[true, true, true, true, true, true, true, true, true, true, true, true, true, true, true, true, false, false]) (fuel := 2) (v := ?_) rfl (by kernel_rfl) (by kernel_rfl) (by kernel_rfl) (by kernel_rfl) (by kernel_rfl) (fun _ _ _ h => h) (by kernel_rfl) ?_ (by assumption) ?_
                rotate_left 1
                · (intro wS hSw; (try dsimp only at hSw); go_simp; try with_reducible rfl)
                try simp only [Act.put, List.setIfInBounds_toArray, List.set_cons_zero, List.set_cons_succ]
                refine rg_take (i := 16) (d := some 49) (l := #[true, true, true, true, true, true, true, true, true, true, true, true, true, true, true, true, true, false]) (fuel := 1) (v := ?_) rfl (by kernel_rfl) (by kernel_rfl) (by kernel_rfl) (by kernel_rfl) (by kernel_rfl) (fun _ _ _ h => h) (by kernel_rfl) ?_ (by assumption) ?_
                rotate_left 1
                · (intro wS hSw; (try dsimp only at hSw); go_simp; try with_reducible rfl)
                try simp only [Act.put, List.setIfInBounds_toArray, List.set_cons_zero, List.set_cons_succ]
                refine rg_next (i := 17) (l := #[true, true, true, true, true, true, true, true, true, true, true, true, true, true, true, true, true, true]) (fuel := 0) (by kernel_rfl) rfl (by kernel_rfl) (by kernel_rfl) (fun K hK => ?_)
                go_simp
                skip
                first | (refine hK.out _ _ ?_ (fun hHeld => ?_)) | (go_wp2_with fail; refine hK.out _ _ ?_ (fun hHeld => ?_))
                · (try dsimp only); skip
                clear hK K
                try simp only [Act.put, List.setIfInBounds_toArray, List.set_cons_zero, List.set_cons_succ]
                refine wpAnyH_done (by kernel_rfl) ?_ _
                go_wp2_with fail
                go_ret
                exact HW.out
              refine rg_step (i := 13) (l := #[true, true, true, true, false, true, true, true, true, true, true, true, true, true, false, false, false, false]) rfl (by kernel_rfl) (by kernel_rfl) ?_ ?_
              · intro K hK
                go_simp
                skip
                first | (refine hK.out _ _ ?_ (fun hHeld => ?_)) | (go_wp2_with fail; refine hK.out _ _ ?_ (fun hHeld => ?_))
                · (try dsimp only); skip
                clear hK K
                try simp only [Act.put, List.setIfInBounds_toArray, List.set_cons_zero, List.set_cons_succ]
                refine rg_next (i := 4) (l := #[true, true, true, true, true, true, true, true, true, true, true, true, true, true, false, false, false, false]) (fuel := 4) (by kernel_rfl) rfl (by kernel_rfl) (by kernel_rfl) (fun K hK => ?_)
                go_simp
                skip
                first | (refine hK.out _ _ ?_ (fun hHeld => ?_)) | (go_wp2_with fail; refine hK.out _ _ ?_ (fun hHeld => ?_))
                · (try dsimp only); skip
                clear hK K
                try simp only [Act.put, List.setIfInBounds_toArray, List.set_cons_zero, List.set_cons_succ]
                refine rg_next (i := 14) (l := #[true, true, true, true, true, true, true, true, true, true, true, true, true, true, true, false, false, false]) (fuel := 3) (by kernel_rfl) rfl (by kernel_rfl) (by kernel_rfl) (fun K hK => ?_)
                refine wp_append_anyC (.tmp 37) (.tmp 46) 25 rfl rfl rfl RUN.out ?_
                refine hK.out _ _ ?_ (fun hHeld => ?_)
                · (try dsimp only); skip
                clear hK K
                try simp only [Act.put, List.setIfInBounds_toArray, List.set_cons_zero, List.set_cons_succ]
                refine rg_take (i := 15) (d := some 48) (l := #[true, true, true, true, true, true, true, true, true, true, true, true, true, true, true, true, false, false]) (fuel := 2) (v := ?_) rfl (by kernel_rfl) (by kernel_rfl) (by kernel_rfl) (by kernel_rfl) (by kernel_rfl) (fun _ _ _ h => h) (by kernel_rfl) ?_ (by assumption) ?_
                rotate_left 1
                · (intro wS hSw; (try dsimp only at hSw); go_simp; try with_reducible rfl)
                try simp only [Act.put, List.setIfInBounds_toArray, List.set_cons_zero, List.set_cons_succ]
                refine rg_take (i := 16) (d := some 49) (l := #[true, true, true, true, true, true, true, true, true, true, true, true, true, true, true, true, true, false]) (fuel := 1) (v := ?_) rfl (by kernel_rfl) (by kernel_rfl) (by kernel_rfl) (by kernel_rfl) (by kernel_rfl) (fun _ _ _ h => h) (by kernel_rfl) ?_ (by assumption) ?_
                rotate_left 1
                · (intro wS hSw; (try dsimp only at hSw); go_simp; try with_reducible rfl)
                try simp only [Act.put, List.setIfInBounds_toArray, List.set_cons_zero, List.set_cons_succ]
                refine rg_next (i := 17) (l := #[true, true, true, true, true, true, true, true, true, true, true, true, true, true, true, true, true, true]) (fuel := 0) (by kernel_rfl) rfl (by kernel_rfl) (by kernel_rfl) (fun K hK => ?_)
                go_simp
                skip
                first | (refine hK.out _ _ ?_ (fun hHeld => ?_)) | (go_wp2_with fail; refine hK.out _ _ ?_ (fun hHeld => ?_))
                · (try dsimp only); skip
                clear hK K
                try simp only [Act.put, List.setIfInBounds_toArray, List.set_cons_zero, List.set_cons_succ]
                refine wpAnyH_done (by kernel_rfl) ?_ _
                go_wp2_with fail
                go_ret
                exact HW.out
              exact AllReadyH.nil
            exact AllReadyH.nil
          | false =>
            have hb1 : (y.toList == [105, 114, 113, 49]) = false := hb
            have hb2 : ([105, 114, 113, 49] == y.toList) = false := by rw [← hb1]; exact beq_sym_ _ _
            have cN : wr.cell? ⟨nb, 2, none⟩ = some (.string ⟨#[105, 114, 113, 49]⟩) := HBK.out.cell 2
            have cY : wr.cell? ⟨ad.block, ad.off + 2, none⟩ = some (.string y) := by obtain ⟨ad', e', _, _, hx⟩ := srow_three (HSS.out.keep HBL.out); injection e' with e'; subst e'; exact hx
            go_upto_region 10 with fail
            refine rg_begin (S := fun wS => wS.cell? ⟨nb, 2, none⟩ = some (.string ⟨#[105, 114, 113, 49]⟩) ∧ wS.cell? ⟨ad.block, ad.off + 2, none⟩ = some (.string y)) 7 #[false, false, false, false, false, false, false] (by kernel_rfl) (by kernel_rfl) (by kernel_rfl) ?_ (fun hHeld => ?_)
            · exact ⟨cN, cY⟩
            have bD := HBL.out.drew
            have kD : Blk (World.drew wr) nb 109 nmA := HBK.out.kp (Kp.refl [] _).drew (by simp)
            clear HBL HBK cN cY
            generalize World.drew wr = wD at *
            have HBD := Lib.hid bD
            have HKD := Lib.hid kD
            clear bD kD
            refine rg_take (i := 0) (d := some 26) (l := #[true, false, false, false, false, false, false]) (fuel := 6) (v := ?_) rfl (by kernel_rfl) (by kernel_rfl) (by kernel_rfl) (by kernel_rfl) (by kernel_rfl) (fun _ _ _ h => h) (by kernel_rfl) ?_ (by assumption) ?_
            rotate_left 1
            · (intro wS hSw; (try dsimp only at hSw); go_simp; try with_reducible rfl)
            try simp only [Act.put, List.setIfInBounds_toArray, List.set_cons_zero, List.set_cons_succ]
            refine rg_take (i := 1) (d := some 27) (l := #[true, true, false, false, false, false, false]) (fuel := 5) (v := ?_) rfl (by kernel_rfl) (by kernel_rfl) (by kernel_rfl) (by kernel_rfl) (by kernel_rfl) (fun _ _ _ h => h) (by kernel_rfl) ?_ (by assumption) ?_
            rotate_left 1
            · (intro wS hSw; (try dsimp only at hSw); go_simp; try with_reducible rfl)
            try simp only [Act.put, List.setIfInBounds_toArray, List.set_cons_zero, List.set_cons_succ]
            refine rg_take (i := 2) (d := some 28) (l := #[true, true, true, false, false, false, false]) (fuel := 4) (v := ?_) rfl (by kernel_rfl) (by kernel_rfl) (by kernel_rfl) (by kernel_rfl) (by kernel_rfl) (fun _ _ _ h => h) (by kernel_rfl) ?_ (by assumption) ?_
            rotate_left 1
            · (intro wS hSw; (try dsimp only at hSw); go_simp; try with_reducible rfl)
            try simp only [Act.put, List.setIfInBounds_toArray, List.set_cons_zero, List.set_cons_succ]
            refine rg_take (i := 3) (d := some 29) (l := #[true, true, true, true, false, false, false]) (fuel := 3) (v := ?_) rfl (by kernel_rfl) (by kernel_rfl) (by kernel_rfl) (by kernel_rfl) (by kernel_rfl) (fun _ _ _ h => h) (by kernel_rfl) ?_ (by assumption) ?_
            rotate_left 1
            · (intro wS hSw; (try dsimp only at hSw); go_simp; try with_reducible rfl)
            try simp only [Act.put, List.setIfInBounds_toArray, List.set_cons_zero, List.set_cons_succ]
            refine rg_take (i := 4) (d := some 30) (l := #[true, true, true, true, true, false, false]) (fuel := 2) (v := ?_) rfl (by kernel_rfl) (by kernel_rfl) (by kernel_rfl) (by kernel_rfl) (by kernel_rfl) (fun _ _ _ h => h) (by kernel_rfl) ?_ (by assumption) ?_
            rotate_left 1
            · (intro wS hSw; (try dsimp only at hSw); go_simp; try with_reducible rfl)
            try simp only [Act.put, List.setIfInBounds_toArray, List.set_cons_zero, List.set_cons_succ]
            refine rg_take (i := 5) (d := some 31) (l := #[true, true, true, true, true, true, false]) (fuel := 1) (v := ?_) rfl (by kernel_rfl) (by kernel_rfl) (by kernel_rfl) (by kernel_rfl) (by kernel_rfl) (fun _ _ _ h => h) (by kernel_rfl) ?_ (by assumption) ?_
            rotate_left 1
            · (intro wS hSw; (try dsimp only at hSw); go_simp; try with_reducible rfl)
            try simp only [Act.put, List.setIfInBounds_toArray, List.set_cons_zero, List.set_cons_succ]
            refine rg_take (i := 6) (d := some 32) (l := #[true, true, true, true, true, true, true]) (fuel := 0) (v := ?_) rfl (by kernel_rfl) (by kernel_rfl) (by kernel_rfl) (by kernel_rfl) (by kernel_rfl) (fun _ _ _ h => h) (by kernel_rfl) ?_ (by assumption) ?_
            rotate_left 1
            · (intro wS hSw; (try dsimp only at hSw); go_simp; try with_reducible rfl)
            try simp only [Act.put, List.setIfInBounds_toArray, List.set_cons_zero, List.set_cons_succ]
            refine wpAnyH_done (by kernel_rfl) ?_ _
            go_wp2_with fail
            go_roundw
            case rel => exact ⟨3, by omega, by go_num, HBD.out, HKD.out, fun j hj => (Nat.lt_succ_iff_lt_or_eq.1 hj).elim (HNO.out j) fun e => by subst e; exact hb⟩
            case measure => simp [intOf]
        · rw [show (((3 : Nat) : Int)) = 3 from rfl]
          cases hb : eqB y (nmL 3) with
          | true =>
            have hb1 : (y.toList == [105, 114, 113, 50]) = true := hb
            have hb2 : ([105, 114, 113, 50] == y.toList) = true := by rw [← hb1]; exact beq_sym_ _ _
            have q0 : eqB y [114, 101, 115, 101, 116] = false := HNO.out 0 (by omega)
            have q1 : eqB y [110, 109, 105] = false := HNO.out 1 (by omega)
            have q2 : eqB y [105, 114, 113, 49] = false := HNO.out 2 (by omega)
            have hI : nameI y = some 3 := by
              unfold nameI
              have q3 : eqB y [105, 114, 113, 50] = true := hb
              simp only [q0, q1, q2, q3, if_true, Bool.false_eq_true, if_false]
            have HR : Hid (RR = (0, { td with edges := td.edges ++ [⟨n, 3, eqB f [117, 112]⟩] })) := Lib.hid (by have := HT.out; rw [hI] at this; exact this)
            clear hI hb q0 q1 q2 HNO
            have cN : wr.cell? ⟨nb, 3, none⟩ = some (.string ⟨#[105, 114, 113, 50]⟩) := HBK.out.cell 3
            have cY : wr.cell? ⟨ad.block, ad.off + 2, none⟩ = some (.string y) := by obtain ⟨ad', e', _, _, hx⟩ := srow_three (HSS.out.keep HBL.out); injection e' with e'; subst e'; exact hx
            go_upto_region 10 with fail
            refine rg_begin (S := fun wS => wS.cell? ⟨nb, 3, none⟩ = some (.string ⟨#[105, 114, 113, 50]⟩) ∧ wS.cell? ⟨ad.block, ad.off + 2, none⟩ = some (.string y)) 7 #[false, false, false, false, false, false, false] (by kernel_rfl) (by kernel_rfl) (by kernel_rfl) ?_ (fun hHeld => ?_)
            · exact ⟨cN, cY⟩
            have bD := HBL.out.drew
            have kD : Blk (World.drew wr) nb 109 nmA := HBK.out.kp (Kp.refl [] _).drew (by simp)
            clear HBL HBK cN cY
            generalize World.drew wr = wD at *
            have HBD := Lib.hid bD
            have HKD := Lib.hid kD
            clear bD kD
            refine rg_take (i := 0) (d := some 26) (l := #[true, false, false, false, false, false, false]) (fuel := 6) (v := ?_) rfl (by kernel_rfl) (by kernel_rfl) (by kernel_rfl) (by kernel_rfl) (by kernel_rfl) (fun _ _ _ h => h) (by kernel_rfl) ?_ (by assumption) ?_
            rotate_left 1
            · (intro wS hSw; (try dsimp only at hSw); go_simp; try with_reducible rfl)
            try simp only [Act.put, List.setIfInBounds_toArray, List.set_cons_zero, List.set_cons_succ]
            refine rg_take (i := 1) (d := some 27) (l := #[true, true, false, false, false, false, false]) (fuel := 5) (v := ?_) rfl (by kernel_rfl) (by kernel_rfl) (by kernel_rfl) (by kernel_rfl) (by kernel_rfl) (fun _ _ _ h => h) (by kernel_rfl) ?_ (by assumption) ?_
            rotate_left 1
            · (intro wS hSw; (try dsimp only at hSw); go_simp; try with_reducible rfl)
            try simp only [Act.put, List.setIfInBounds_toArray, List.set_cons_zero, List.set_cons_succ]
            refine rg_take (i := 2) (d := some 28) (l := #[true, true, true, false, false, false, false]) (fuel := 4) (v := ?_) rfl (by kernel_rfl) (by kernel_rfl) (by kernel_rfl) (by kernel_rfl) (by kernel_rfl) (fun _ _ _ h => h) (by kernel_rfl) ?_ (by assumption) ?_
            rotate_left 1
            · (intro wS hSw; (try dsimp only at hSw); go_simp; try with_reducible rfl)
            try simp only [Act.put, List.setIfInBounds_toArray, List.set_cons_zero, List.set_cons_succ]
            refine rg_take (i := 3) (d := some 29) (l := #[true, true, true, true, false, false, false]) (fuel := 3) (v := ?_) rfl (by kernel_rfl) (by kernel_rfl) (by kernel_rfl) (by kernel_rfl) (by kernel_rfl) (fun _ _ _ h => h) (by kernel_rfl) ?_ (by assumption) ?_
            rotate_left 1
            · (intro wS hSw; (try dsimp only at hSw); go_simp; try with_reducible rfl)
            try simp only [Act.put, List.setIfInBounds_toArray, List.set_cons_zero, List.set_cons_succ]
            refine rg_take (i := 4) (d := some 30) (l := #[true, true, true, true, true, false, false]) (fuel := 2) (v := ?_) rfl (by kernel_rfl) (by kernel_rfl) (by kernel_rfl) (by kernel_rfl) (by kernel_rfl) (fun _ _ _ h => h) (by kernel_rfl) ?_ (by assumption) ?_
            rotate_left 1
            · (intro wS hSw; (try dsimp only at hSw); go_simp; try with_reducible rfl)
            try simp only [Act.put, List.setIfInBounds_toArray, List.set_cons_zero, List.set_cons_succ]
            refine rg_take (i := 5) (d := some 31) (l := #[true, true, true, true, true, true, false]) (fuel := 1) (v := ?_) rfl (by kernel_rfl) (by kernel_rfl) (by kernel_rfl) (by kernel_rfl) (by kernel_rfl) (fun _ _ _ h => h) (by kernel_rfl) ?_ (by assumption) ?_
            rotate_left 1
            · (intro wS hSw; (try dsimp only at hSw); go_simp; try with_reducible rfl)
            try simp only [Act.put, List.setIfInBounds_toArray, List.set_cons_zero, List.set_cons_succ]
            refine rg_take (i := 6) (d := some 32) (l := #[true, true, true, true, true, true, true]) (fuel := 0) (v := ?_) rfl (by kernel_rfl) (by kernel_rfl) (by kernel_rfl) (by kernel_rfl) (by kernel_rfl) (fun _ _ _ h => h) (by kernel_rfl) ?_ (by assumption) ?_
            rotate_left 1
            · (intro wS hSw; (try dsimp only at hSw); go_simp; try with_reducible rfl)
            try simp only [Act.put, List.setIfInBounds_toArray, List.set_cons_zero, List.set_cons_succ]
            refine wpAnyH_done (by kernel_rfl) ?_ _
            go_upto_region 11 with fail
            refine rg_begin (S := fun _ => True) 18 #[false, false, false, false, false, false, false, false, false, false, false, false, false, false, false, false, false, false] (by kernel_rfl) (by kernel_rfl) (by kernel_rfl) ?_ (fun hHeld => ?_)
            · trivial
            have bE := HBD.out.drew
            clear HBD HKD
            generalize World.drew wD = wE at *
            have cF : wE.cell? ad = some (.string f) := by obtain ⟨ad', e', hx⟩ := srow_one (HSS.out.keep bE); injection e' with e'; subst e'; exact hx
            have hE := HH.out.below bE
            have hSZ := bE.size
            obtain ⟨b, c5, w5, hrun, c10b, z10, gb, far, h6, k6, l6⟩ := hE.addE (p := ⟨n, 3, eqB f [117, 112]⟩) (Nat.le_trans hB hSZ) hn
            have c10 : wE.cell? ⟨g, 6, none⟩ = some vE := hE.blk.cell 6
            have c10a : (wE.alloc (.cells #[.int .i64 n, .int .u8 (IntKind.u8.wrap 3), .bool (f.toList == [117, 112])] 31)).cell? ⟨g, 6, none⟩ = some vE := (hE.blk.alloc _).cell 6
            have HW : Hid (RTakeR B g (rtdL g vP vV vC vR vE) RR w' (.returned (.int .i64 0)) (w5.setCell ⟨g, 6, none⟩ (.slice (some ⟨b, 0, none⟩) (td.edges.length + 1) c5))) := Lib.hid (by rw [HR.out]; exact ⟨rfl, (Kp.of_below bE).trans k6 (fun x hx => Or.inl hx), fun _ => ⟨_, _, _, _, _, h6, fun x hx => (l6 x hx).imp id (fun hh => Nat.le_trans hSZ hh)⟩⟩)
            have RUN := Lib.hid hrun
            clear hrun gb far h6 k6 l6 hE bE
            obtain ⟨TN, hTN⟩ : ∃ m, td.edges.length + 1 = m := ⟨_, rfl⟩
            rw [hTN] at RUN HW
            clear hTN
            refine rg_take (i := 0) (d := some 33) (l := #[true, false, false, false, false, false, false, false, false, false, false, false, false, false, false, false, false, false]) (fuel := 17) (v := ?_) rfl (by kernel_rfl) (by kernel_rfl) (by kernel_rfl) (by kernel_rfl) (by kernel_rfl) (fun _ _ _ h => h) (by kernel_rfl) ?_ (by assumption) ?_
            rotate_left 1
            · (intro wS hSw; (try dsimp only at hSw); go_simp; try with_reducible rfl)
            try simp only [Act.put, List.setIfInBounds_toArray, List.set_cons_zero, List.set_cons_succ]
            refine rg_take (i := 1) (d := some 34) (l := #[true, true, false, false, false, false, false, false, false, false, false, false, false, false, false, false, false, false]) (fuel := 16) (v := ?_) rfl (by kernel_rfl) (by kernel_rfl) (by kernel_rfl) (by kernel_rfl) (by kernel_rfl) (fun _ _ _ h => h) (by kernel_rfl) ?_ (by assumption) ?_
            rotate_left 1
            · (intro wS hSw; (try dsimp only at hSw); go_simp; try with_reducible rfl)
            try simp only [Act.put, List.setIfInBounds_toArray, List.set_cons_zero, List.set_cons_succ]
            refine rg_take (i := 2) (d := some 35) (l := #[true, true, true, false, false, false, false, false, false, false, false, false, false, false, false, false, false, false]) (fuel := 15) (v := ?_) rfl (by kernel_rfl) (by kernel_rfl) (by kernel_rfl) (by kernel_rfl) (by kernel_rfl) (fun _ _ _ h => h) (by kernel_rfl) ?_ (by assumption) ?_
            rotate_left 1
            · (intro wS hSw; (try dsimp only at hSw); go_simp; try with_reducible rfl)
            try simp only [Act.put, List.setIfInBounds_toArray, List.set_cons_zero, List.set_cons_succ]
            refine rg_take (i := 3) (d := some 36) (l := #[true, true, true, true, false, false, false, false, false, false, false, false, false, false, false, false, false, false]) (fuel := 14) (v := ?_) rfl (by kernel_rfl) (by kernel_rfl) (by kernel_rfl) (by kernel_rfl) (by kernel_rfl) (fun _ _ _ h => h) (by kernel_rfl) ?_ (by assumption) ?_
            rotate_left 1
            · (intro wS hSw; (try dsimp only at hSw); go_simp; try with_reducible rfl)
            try simp only [Act.put, List.setIfInBounds_toArray, List.set_cons_zero, List.set_cons_succ]
            refine rg_take (i := 5) (d := some 38) (l := #[true, true, true, true, false, true, false, false, false, false, false, false, false, false, false, false, false, false]) (fuel := 13) (v := ?_) rfl (by kernel_rfl) (by kernel_rfl) (by kernel_rfl) (by kernel_rfl) (by kernel_rfl) (fun _ _ _ h => h) (by kernel_rfl) ?_ (by assumption) ?_
            rotate_left 1
            · (intro wS hSw; (try dsimp only at hSw); go_simp; try with_reducible rfl)
            try simp only [Act.put, List.setIfInBounds_toArray, List.set_cons_zero, List.set_cons_succ]
            refine rg_take (i := 6) (d := some 39) (l := #[true, true, true, true, false, true, true, false, false, false, false, false, false, false, false, false, false, false]) (fuel := 12) (v := ?_) rfl (by kernel_rfl) (by kernel_rfl) (by kernel_rfl) (by kernel_rfl) (by kernel_rfl) (fun _ _ _ h => h) (by kernel_rfl) ?_ (by assumption) ?_
            rotate_left 1
            · (intro wS hSw; (try dsimp only at hSw); go_simp; try with_reducible rfl)
            try simp only [Act.put, List.setIfInBounds_toArray, List.set_cons_zero, List.set_cons_succ]
            refine rg_take (i := 7) (d := some 40) (l := #[true, true, true, true, false, true, true, true, false, false, false, false, false, false, false, false, false, false]) (fuel := 11) (v := ?_) rfl (by kernel_rfl) (by kernel_rfl) (by kernel_rfl) (by kernel_rfl) (by kernel_rfl) (fun _ _ _ h => h) (by kernel_rfl) ?_ (by assumption) ?_
            rotate_left 1
            · (intro wS hSw; (try dsimp only at hSw); go_simp; try with_reducible rfl)
            try simp only [Act.put, List.setIfInBounds_toArray, List.set_cons_zero, List.set_cons_succ]
            refine rg_take (i := 8) (d := some 41) (l := #[true, true, true, true, false, true, true, true, true, false, false, false, false, false, false, false, false, false]) (fuel := 10) (v := ?_) rfl (by kernel_rfl) (by kernel_rfl) (by kernel_rfl) (by kernel_rfl) (by kernel_rfl) (fun _ _ _ h => h) (by kernel_rfl) ?_ (by assumption) ?_
            rotate_left 1
            · (intro wS hSw; (try dsimp only at hSw); go_simp; try with_reducible rfl)
            try simp only [Act.put, List.setIfInBounds_toArray, List.set_cons_zero, List.set_cons_succ]
            refine rg_take (i := 9) (d := some 42) (l := #[true, true, true, true, false, true, true, true, true, true, false, false, false, false, false, false, false, false]) (fuel := 9) (v := ?_) rfl (by kernel_rfl) (by kernel_rfl) (by kernel_rfl) (by kernel_rfl) (by kernel_rfl) (fun _ _ _ h => h) (by kernel_rfl) ?_ (by assumption) ?_
            rotate_left 1
            · (intro wS hSw; (try dsimp only at hSw); go_simp; try with_reducible rfl)
            try simp only [Act.put, List.setIfInBounds_toArray, List.set_cons_zero, List.set_cons_succ]
            refine rg_of (rs := [4, 10]) (fuel := 8) (by kernel_rfl) rfl ?_
            refine rg_step (i := 4) (l := #[true, true, true, true, true, true, true, true, true, true, false, false, false, false, false, false, false, false]) rfl (by kernel_rfl) (by kernel_rfl) ?_ ?_
            · intro K hK
              go_simp
              skip
              first | (refine hK.out _ _ ?_ (fun hHeld => ?_)) | (go_wp2_with fail; refine hK.out _ _ ?_ (fun hHeld => ?_))
              · (try dsimp only); skip
              clear hK K
              try simp only [Act.put, List.setIfInBounds_toArray, List.set_cons_zero, List.set_cons_succ]
              refine rg_next (i := 10) (l := #[true, true, true, true, true, true, true, true, true, true, true, false, false, false, false, false, false, false]) (fuel := 7) (by kernel_rfl) rfl (by kernel_rfl) (by kernel_rfl) (fun K hK => ?_)
              go_simp
              skip
              first | (refine hK.out _ _ ?_ (fun hHeld => ?_)) | (go_wp2_with fail; refine hK.out _ _ ?_ (fun hHeld => ?_))
              · (try dsimp only); skip
              clear hK K
              try simp only [Act.put, List.setIfInBounds_toArray, List.set_cons_zero, List.set_cons_succ]
              refine rg_take (i := 11) (d := some 44) (l := #[true, true, true, true, true, true, true, true, true, true, true, true, false, false, false, false, false, false]) (fuel := 6) (v := ?_) rfl (by kernel_rfl) (by kernel_rfl) (by kernel_rfl) (by kernel_rfl) (by kernel_rfl) (fun _ _ _ h => h) (by kernel_rfl) ?_ (by assumption) ?_
              rotate_left 1
              · (intro wS hSw; (try dsimp only at hSw); go_simp; try with_reducible rfl)
              try simp only [Act.put, List.setIfInBounds_toArray, List.set_cons_zero, List.set_cons_succ]
              refine rg_take (i := 12) (d := some 45) (l := #[true, true, true, true, true, true, true, true, true, true, true, true, true, false, false, false, false, false]) (fuel := 5) (v := ?_) rfl (by kernel_rfl) (by kernel_rfl) (by kernel_rfl) (by kernel_rfl) (by kernel_rfl) (fun _ _ _ h => h) (by kernel_rfl) ?_ (by assumption) ?_
              rotate_left 1
              · (intro wS hSw; (try dsimp only at hSw); go_simp; try with_reducible rfl)
              try simp only [Act.put, List.setIfInBounds_toArray, List.set_cons_zero, List.set_cons_succ]
              refine rg_next (i := 13) (l := #[true, true, true, true, true, true, true, true, true, true, true, true, true, true, false, false, false, false]) (fuel := 4) (by kernel_rfl) rfl (by kernel_rfl) (by kernel_rfl) (fun K hK => ?_)
              go_simp
              skip
              first | (refine hK.out _ _ ?_ (fun hHeld => ?_)) | (go_wp2_with fail; refine hK.out _ _ ?_ (fun hHeld => ?_))
              · (try dsimp only); skip
              clear hK K
              try simp only [Act.put, List.setIfInBounds_toArray, List.set_cons_zero, List.set_cons_succ]
              refine rg_next (i := 14) (l := #[true, true, true, true, true, true, true, true, true, true, true, true, true, true, true, false, false, false]) (fuel := 3) (by kernel_rfl) rfl (by kernel_rfl) (by kernel_rfl) (fun K hK => ?_)
              refine wp_append_anyC (.tmp 37) (.tmp 46) 25 rfl rfl rfl RUN.out ?_
              refine hK.out _ _ ?_ (fun hHeld => ?_)
              · (try dsimp only); skip
              clear hK K
              try simp only [Act.put, List.setIfInBounds_toArray, List.set_cons_zero, List.set_cons_succ]
              refine rg_take (i := 15) (d := some 48) (l := #[true, true, true, true, true, true, true, true, true, true, true, true, true, true, true, true, false, false]) (fuel := 2) (v := ?_) rfl (by kernel_rfl) (by kernel_rfl) (by kernel_rfl) (by kernel_rfl) (by kernel_rfl) (fun _ _ _ h => h) (by kernel_rfl) ?_ (by assumption) ?_
              rotate_left 1
              · (intro wS hSw; (try dsimp only at hSw); go_simp; try with_reducible rfl)
              try simp only [Act.put, List.setIfInBounds_toArray, List.set_cons_zero, List.set_cons_succ]
              refine rg_take (i := 16) (d := some 49) (l := #[true, true, true, true, true, true, true, true, true, true, true, true, true, true, true, true, true, false]) (fuel := 1) (v := ?_) rfl (by kernel_rfl) (by kernel_rfl) (by kernel_rfl) (by kernel_rfl) (by kernel_rfl) (fun _ _ _ h => h) (by kernel_rfl) ?_ (by assumption) ?_
              rotate_left 1
              · (intro wS hSw; (try dsimp only at hSw); go_simp; try with_reducible rfl)
              try simp only [Act.put, List.setIfInBounds_toArray, List.set_cons_zero, List.set_cons_succ]
              refine rg_next (i := 17) (l := #[true, true, true, true, true, true, true, true, true, true, true, true, true, true, true, true, true, true]) (fuel := 0) (by kernel_rfl) rfl (by kernel_rfl) (by kernel_rfl) (fun K hK => ?_)
              go_simp
              skip
              first | (refine hK.out _ _ ?_ (fun hHeld => ?_)) | (go_wp2_with fail; refine hK.out _ _ ?_ (fun hHeld => ?_))
              · (try dsimp only); skip
              clear hK K
              try simp only [Act.put, List.setIfInBounds_toArray, List.set_cons_zero, List.set_cons_succ]
              refine wpAnyH_done (by kernel_rfl) ?_ _
              go_wp2_with fail
              go_ret
              exact HW.out
            refine rg_step (i := 10) (l := #[true, true, true, true, false, true, true, true, true, true, true, false, false, false, false, false, false, false]) rfl (by kernel_rfl) (by kernel_rfl) ?_ ?_
            · intro K hK
              go_simp
              skip
              first | (refine hK.out _ _ ?_ (fun hHeld => ?_)) | (go_wp2_with fail; refine hK.out _ _ ?_ (fun hHeld => ?_))
              · (try dsimp only); skip
              clear hK K
              try simp only [Act.put, List.setIfInBounds_toArray, List.set_cons_zero, List.set_cons_succ]
              refine rg_take (i := 11) (d := some 44) (l := #[true, true, true, true, false, true, true, true, true, true, true, true, false, false, false, false, false, false]) (fuel := 7) (v := ?_) rfl (by kernel_rfl) (by kernel_rfl) (by kernel_rfl) (by kernel_rfl) (by kernel_rfl) (fun _ _ _ h => h) (by kernel_rfl) ?_ (by assumption) ?_
              rotate_left 1
              · (intro wS hSw; (try dsimp only at hSw); go_simp; try with_reducible rfl)
              try simp only [Act.put, List.setIfInBounds_toArray, List.set_cons_zero, List.set_cons_succ]
              refine rg_take (i := 12) (d := some 45) (l := #[true, true, true, true, false, true, true, true, true, true, true, true, true, false, false, false, false, false]) (fuel := 6) (v := ?_) rfl (by kernel_rfl) (by kernel_rfl) (by kernel_rfl) (by kernel_rfl) (by kernel_rfl) (fun _ _ _ h => h) (by kernel_rfl) ?_ (by assumption) ?_
              rotate_left 1
              · (intro wS hSw; (try dsimp only at hSw); go_simp; try with_reducible rfl)
              try simp only [Act.put, List.setIfInBounds_toArray, List.set_cons_zero, List.set_cons_succ]
              refine rg_of (rs := [4, 13]) (fuel := 5) (by kernel_rfl) rfl ?_
              refine rg_step (i := 4) (l := #[true, true, true, true, true, true, true, true, true, true, true, true, true, false, false, false, false, false]) rfl (by kernel_rfl) (by kernel_rfl) ?_ ?_
              · intro K hK
                go_simp
                skip
                first | (refine hK.out _ _ ?_ (fun hHeld => ?_)) | (go_wp2_with fail; refine hK.out _ _ ?_ (fun hHeld => ?_))
                · (try dsimp only); skip
                clear hK K
                try simp only [Act.put, List.setIfInBounds_toArray, List.set_cons_zero, List.set_cons_succ]
                refine rg_next (i := 13) (l := #[true, true, true, true, true, true, true, true, true, true, true, true, true, true, false, false, false, false]) (fuel := 4) (by kernel_rfl) rfl (by kernel_rfl) (by kernel_rfl) (fun K hK => ?_)
                go_simp
                skip
                first | (refine hK.out _ _ ?_ (fun hHeld => ?_)) | (go_wp2_with fail; refine hK.out _ _ ?_ (fun hHeld => ?_))
                · (try dsimp only); skip
                clear hK K
                try simp only [Act.put, List.setIfInBounds_toArray, List.set_cons_zero, List.set_cons_succ]
                refine rg_next (i := 14) (l := #[true, true, true, true, true, true, true, true, true, true, true, true, true, true, true, false, false, false]) (fuel := 3) (by kernel_rfl) rfl (by kernel_rfl) (by kernel_rfl) (fun K hK => ?_)
                refine wp_append_anyC (.tmp 37) (.tmp 46) 25 rfl rfl rfl RUN.out ?_
                refine hK.out _ _ ?_ (fun hHeld => ?_)
                · (try dsimp only); skip
                clear hK K
                try simp only [Act.put, List.setIfInBounds_toArray, List.set_cons_zero, List.set_cons_succ]
                refine rg_take (i := 15) (d := some 48) (l := #[true, true, true, true, true, true, true, true, true, true, true, true, true, true, true, true, false, false]) (fuel := 2) (v := ?_) rfl (by kernel_rfl) (by kernel_rfl) (by kernel_rfl) (by kernel_rfl) (by kernel_rfl) (fun _ _ _ h => h) (by kernel_rfl) ?_ (by assumption) ?_
                rotate_left 1
                · (intro wS hSw; (try dsimp only at hSw); go_simp; try with_reducible rfl)
                try simp only [Act.put, List.setIfInBounds_toArray, List.set_cons_zero, List.set_cons_succ]
                refine rg_take (i := 16) (d := some 49) (l := #[true, true, true, true, true, true, true, true, true, true, true, true, true, true, true, true, true, false]) (fuel := 1) (v := ?_) rfl (by kernel_rfl) (by kernel_rfl) (by kernel_rfl) (by kernel_rfl) (by kernel_rfl) (fun _ _ _ h => h) (by kernel_rfl) ?_ (by assumption) ?_
                rotate_left 1
                · (intro wS hSw; (try dsimp only at hSw); go_simp; try with_reducible rfl)
                try simp only [Act.put, List.setIfInBounds_toArray, List.set_cons_zero, List.set_cons_succ]
                refine rg_next (i := 17) (l := #[true, true, true, true, true, true, true, true, true, true, true, true, true, true, true, true, true, true]) (fuel := 0) (by kernel_rfl) rfl (by kernel_rfl) (by kernel_rfl) (fun K hK => ?_)
                go_simp
                skip
                first | (refine hK.out _ _ ?_ (fun hHeld => ?_)) | (go_wp2_with fail; refine hK.out _ _ ?_ (fun hHeld => ?_))
                · (try dsimp only); skip
                clear hK K
                try simp only [Act.put, List.setIfInBounds_toArray, List.set_cons_zero, List.set_cons_succ]
                refine wpAnyH_done (by kernel_rfl) ?_ _
                go_wp2_with fail
                go_ret
                exact HW.out
              refine rg_step (i := 13) (l := #[true, true, true, true, false, true, true, true, true, true, true, true, true, true, false, false, false, false]) rfl (by kernel_rfl) (by kernel_rfl) ?_ ?_
              · intro K hK
                go_simp
                skip
                first | (refine hK.out _ _ ?_ (fun hHeld => ?_)) | (go_wp2_with fail; refine hK.out _ _ ?_ (fun hHeld => ?_))
                · (try dsimp only); skip
                clear hK K
                try simp only [Act.put, List.setIfInBounds_toArray, List.set_cons_zero, List.set_cons_succ]
                refine rg_next (i := 4) (l := #[true, true, true, true, true, true, true, true, true, true, true, true, true, true, false, false, false, false]) (fuel := 4) (by kernel_rfl) rfl (by kernel_rfl) (by kernel_rfl) (fun K hK => ?_)
                go_simp
                skip
                first | (refine hK.out _ _ ?_ (fun hHeld => ?_)) | (go_wp2_with fail; refine hK.out _ _ ?_ (fun hHeld => ?_))
                · (try dsimp only); skip
                clear hK K
                try simp only [Act.put, List.setIfInBounds_toArray, List.set_cons_zero, List.set_cons_succ]
                refine rg_next (i := 14) (l := #[true, true, true, true, true, true, true, true, true, true, true, true, true, true, true, false, false, false]) (fuel := 3) (by kernel_rfl) rfl (by kernel_rfl) (by kernel_rfl) (fun K hK => ?_)
                refine wp_append_anyC (.tmp 37) (.tmp 46) 25 rfl rfl rfl RUN.out ?_
                refine hK.out _ _ ?_ (fun hHeld => ?_)
                · (try dsimp only); skip
                clear hK K
                try simp only [Act.put, List.setIfInBounds_toArray, List.set_cons_zero, List.set_cons_succ]
                refine rg_take (i := 15) (d := some 48) (l := #[true, true, true, true, true, true, true, true, true, true, true, true, true, true, true, true, false, false]) (fuel := 2) (v := ?_) rfl (by kernel_rfl) (by kernel_rfl) (by kernel_rfl) (by kernel_rfl) (by kernel_rfl) (fun _ _ _ h => h) (by kernel_rfl) ?_ (by assumption) ?_
                rotate_left 1
                · (intro wS hSw; (try dsimp only at hSw); go_simp; try with_reducible rfl)
                try simp only [Act.put, List.setIfInBounds_toArray, List.set_cons_zero, List.set_cons_succ]
                refine rg_take (i := 16) (d := some 49) (l := #[true, true, true, true, true, true, true, true, true, true, true, true, true, true, true, true, true, false]) (fuel := 1) (v := ?_) rfl (by kernel_rfl) (by kernel_rfl) (by kernel_rfl) (by kernel_rfl) (by kernel_rfl) (fun _ _ _ h => h) (by kernel_rfl) ?_ (by assumption) ?_
                rotate_left 1
                · (intro wS hSw; (try dsimp only at hSw); go_simp; try with_reducible rfl)
                try simp only [Act.put, List.setIfInBounds_toArray, List.set_cons_zero, List.set_cons_succ]
                refine rg_next (i := 17) (l := #[true, true, true, true, true, true, true, true, true, true, true, true, true, true, true, true, true, true]) (fuel := 0) (by kernel_rfl) rfl (by kernel_rfl) (by kernel_rfl) (fun K hK => ?_)
                go_simp
                skip
                first | (refine hK.out _ _ ?_ (fun hHeld => ?_)) | (go_wp2_with fail; refine hK.out _ _ ?_ (fun hHeld => ?_))
                · (try dsimp only); skip
                clear hK K
                try simp only [Act.put, List.setIfInBounds_toArray, List.set_cons_zero, List.set_cons_succ]
                refine wpAnyH_done (by kernel_rfl) ?_ _
                go_wp2_with fail
                go_ret
                exact HW.out
              exact AllReadyH.nil
            exact AllReadyH.nil
          | false =>
            have hb1 : (y.toList == [105, 114, 113, 50]) = false := hb
            have hb2 : ([105, 114, 113, 50] == y.toList) = false := by rw [← hb1]; exact beq_sym_ _ _
            have cN : wr.cell? ⟨nb, 3, none⟩ = some (.string ⟨#[105, 114, 113, 50]⟩) := HBK.out.cell 3
            have cY : wr.cell? ⟨ad.block, ad.off + 2, none⟩ = some (.string y) := by obtain ⟨ad', e', _, _, hx⟩ := srow_three (HSS.out.keep HBL.out); injection e' with e'; subst e'; exact hx
            go_upto_region 10 with fail
            refine rg_begin (S := fun wS => wS.cell? ⟨nb, 3, none⟩ = some (.string ⟨#[105, 114, 113, 50]⟩) ∧ wS.cell? ⟨ad.block, ad.off + 2, none⟩ = some (.string y)) 7 #[false, false, false, false, false, false, false] (by kernel_rfl) (by kernel_rfl) (by kernel_rfl) ?_ (fun hHeld => ?_)
            · exact ⟨cN, cY⟩
            have bD := HBL.out.drew
            have kD : Blk (World.drew wr) nb 109 nmA := HBK.out.kp (Kp.refl [] _).drew (by simp)
            clear HBL HBK cN cY
            generalize World.drew wr = wD at *
            have HBD := Lib.hid bD
            have HKD := Lib.hid kD
            clear bD kD
            refine rg_take (i := 0) (d := some 26) (l := #[true, false, false, false, false, false, false]) (fuel := 6) (v := ?_) rfl (by kernel_rfl) (by kernel_rfl) (by kernel_rfl) (by kernel_rfl) (by kernel_rfl) (fun _ _ _ h => h) (by kernel_rfl) ?_ (by assumption) ?_
            rotate_left 1
            · (intro wS hSw; (try dsimp only at hSw); go_simp; try with_reducible rfl)
            try simp only [Act.put, List.setIfInBounds_toArray, List.set_cons_zero, List.set_cons_succ]
            refine rg_take (i := 1) (d := some 27) (l := #[true, true, false, false, false, false, false]) (fuel := 5) (v := ?_) rfl (by kernel_rfl) (by kernel_rfl) (by kernel_rfl) (by kernel_rfl) (by kernel_rfl) (fun _ _ _ h => h) (by kernel_rfl) ?_ (by assumption) ?_
            rotate_left 1
            · (intro wS hSw; (try dsimp only at hSw); go_simp; try with_reducible rfl)
            try simp only [Act.put, List.setIfInBounds_toArray, List.set_cons_zero, List.set_cons_succ]
            refine rg_take (i := 2) (d := some 28) (l := #[true, true, true, false, false, false, false]) (fuel := 4) (v := ?_) rfl (by kernel_rfl) (by kernel_rfl) (by kernel_rfl) (by kernel_rfl) (by kernel_rfl) (fun _ _ _ h => h) (by kernel_rfl) ?_ (by assumption) ?_
            rotate_left 1
            · (intro wS hSw; (try dsimp only at hSw); go_simp; try with_reducible rfl)
            try simp only [Act.put, List.setIfInBounds_toArray, List.set_cons_zero, List.set_cons_succ]
            refine rg_take (i := 3) (d := some 29) (l := #[true, true, true, true, false, false, false]) (fuel := 3) (v := ?_) rfl (by kernel_rfl) (by kernel_rfl) (by kernel_rfl) (by kernel_rfl) (by kernel_rfl) (fun _ _ _ h => h) (by kernel_rfl) ?_ (by assumption) ?_
            rotate_left 1
            · (intro wS hSw; (try dsimp only at hSw); go_simp; try with_reducible rfl)
            try simp only [Act.put, List.setIfInBounds_toArray, List.set_cons_zero, List.set_cons_succ]
            refine rg_take (i := 4) (d := some 30) (l := #[true, true, true, true, true, false, false]) (fuel := 2) (v := ?_) rfl (by kernel_rfl) (by kernel_rfl) (by kernel_rfl) (by kernel_rfl) (by kernel_rfl) (fun _ _ _ h => h) (by kernel_rfl) ?_ (by assumption) ?_
            rotate_left 1
            · (intro wS hSw; (try dsimp only at hSw); go_simp; try with_reducible rfl)
            try simp only [Act.put, List.setIfInBounds_toArray, List.set_cons_zero, List.set_cons_succ]
            refine rg_take (i := 5) (d := some 31) (l := #[true, true, true, true, true, true, false]) (fuel := 1) (v := ?_) rfl (by kernel_rfl) (by kernel_rfl) (by kernel_rfl) (by kernel_rfl) (by kernel_rfl) (fun _ _ _ h => h) (by kernel_rfl) ?_ (by assumption) ?_
            rotate_left 1
            · (intro wS hSw; (try dsimp only at hSw); go_simp; try with_reducible rfl)
            try simp only [Act.put, List.setIfInBounds_toArray, List.set_cons_zero, List.set_cons_succ]
            refine rg_take (i := 6) (d := some 32) (l := #[true, true, true, true, true, true, true]) (fuel := 0) (v := ?_) rfl (by kernel_rfl) (by kernel_rfl) (by kernel_rfl) (by kernel_rfl) (by kernel_rfl) (fun _ _ _ h => h) (by kernel_rfl) ?_ (by assumption) ?_
            rotate_left 1
            · (intro wS hSw; (try dsimp only at hSw); go_simp; try with_reducible rfl)
            try simp only [Act.put, List.setIfInBounds_toArray, List.set_cons_zero, List.set_cons_succ]
            refine wpAnyH_done (by kernel_rfl) ?_ _
            go_wp2_with fail
            go_roundw
            case rel => exact ⟨4, by omega, by go_num, HBD.out, HKD.out, fun j hj => (Nat.lt_succ_iff_lt_or_eq.1 hj).elim (HNO.out j) fun e => by subst e; exact hb⟩
            case measure => simp [intOf]
        · rw [show (((4 : Nat) : Int)) = 4 from rfl]
          have hI : nameI y = none := by
            have q0 : eqB y [114, 101, 115, 101, 116] = false := HNO.out 0 (by omega)
            have q1 : eqB y [110, 109, 105] = false := HNO.out 1 (by omega)
            have q2 : eqB y [105, 114, 113, 49] = false := HNO.out 2 (by omega)
            have q3 : eqB y [105, 114, 113, 50] = false := HNO.out 3 (by omega)
            unfold nameI
            simp only [q0, q1, q2, q3, Bool.false_eq_true, if_false]
          have hR : RR = (8, td) := by have := HT.out; rw [hI] at this; exact this
          have H8 : Hid (RTakeR B g (rtdL g vP vV vC vR vE) RR w' (.returned (.int .i64 8)) wr) := Lib.hid (by rw [hR]; exact HBAD.out 8 wr (by decide) HBL.out)
          clear hI hR
          go_wp2_with fail
          all_goals (go_ret; exact H8.out)
    · rw [if_pos he] at hT
      subst hT
      have e1 : (e != 0) = true := by rw [bne_iff_ne]; exact he
      have H3 := Lib.hid (HBAD.out 3 w (by decide) (Below.refl _ _))
      clear HBAD h he HS hcy0 hcf hf
      go_enter Tryd.func101, Tryd.ntmps101
      go_wp2_with (go_at_call 23; refine (hNu _).mono ?_; rintro e w' ⟨rfl, rfl⟩)
      all_goals (go_ret; exact H3.out)
  · rw [edgeT_len up rest td h2]
    obtain ⟨n, hnn⟩ : ∃ n, rest.length + 1 = n := ⟨_, rfl⟩
    have e1 : ((n : Int) != 3) = true := by rw [bne_iff_ne]; omega
    have H3 := Lib.hid (HBAD.out 3 w (by decide) (Below.refl _ _))
    rw [hnn] at hc ⊢
    clear h2 hnn HS hsz HBAD h hlen
    go_enter Tryd.func101, Tryd.ntmps101
    go_wp2_with fail
    all_goals (go_ret; exact H3.out)
end Go.Proofs.YtnhnphifhkkboaaDoor
namespace Go.Proofs.YtnhnphifhkkboaaDoor
open Go.RowKit Go.Shelf
set_option linter.unusedVariables false
set_option linter.unusedSimpArgs false
set_option maxRecDepth 100000
theorem eqB_data {f : ByteArray} {l : List UInt8} (h : eqB f l = true) : f = ⟨⟨l⟩⟩ := by
  have h1 : f.toList = l := by simpa [eqB] using h
  rw [ByteArray.toList_eq] at h1
  cases f with
  | mk d => cases d with
    | mk x => simp at h1; rw [h1]
set_option maxHeartbeats 16000000 in
theorem rone_any {B g : Nat} {td : Td} {vP vV vC vR vE : Value} {w : World} (h : RTdH B g td vP vV vC vR vE w) (hW : TdW td) (hO : TdOk 100000000000 td) (hB : B ≤ w.heap.size) (f : ByteArray) (rest : List ByteArray) (A : Option Addr) (c : Nat) (hc : rest.length + 1 ≤ c) (HS : SRow w A (f :: rest)) (hsz : ∀ x ∈ rest, x.size ≤ 1000000) (hlen : rest.length ≤ 1000000) :
    Calls Tryd.prog 52 #[.pointer (some ⟨g, 0, none⟩), .slice A (rest.length + 1) c] w fun e w' => RTakeR B g (rtdL g vP vV vC vR vE) (take1 (f :: rest) td) w e w' := by
  obtain ⟨ad, rfl, hcf⟩ := srow_one HS
  have HN : ∀ p : Bool, f = (if p then pgK else bgK) → Calls Tryd.prog 99 #[.pointer (some ⟨g, 0, none⟩), .slice (some ad) (rest.length + 1) c] w fun e w' => RTakeR B g (rtdL g vP vV vC vR vE) (numT p rest td) w e w' := fun p hf => rnumber1_any h hW p rest (some ad) c hc (hf ▸ HS) hsz
  have HR := fun hf => rrom_any h hB hO.rom f hf rest (some ad) c hc HS hsz hlen
  have HF0 := fun hf0 hf1 => rfeed0_any h hB hO.vdc f hf0 hf1 rest (some ad) c hc HS hsz hlen
  have HF1 := fun hf0 hf1 hf2 => rfeed1_any h hB hO.vce f hf0 hf1 hf2 rest (some ad) c hc HS hsz hlen
  have HF2 := fun hf0 hf1 hf2 => rfeed2_any h hB hO.port f hf0 hf1 hf2 rest (some ad) c hc HS hsz hlen
  have HE := fun up hf => redge_any h hB hO.edges up f hf rest (some ad) c hc HS hsz hlen
  obtain ⟨n, hn⟩ : ∃ n, rest.length + 1 = n := ⟨_, rfl⟩
  have n0 : 0 < n := by omega
  rw [hn] at HN HR HF0 HF1 HF2 HE hc ⊢
  have K10 : Hid (RTakeR B g (rtdL g vP vV vC vR vE) (10, td) w (.returned (.int .i64 10)) w) := Lib.hid ⟨rfl, Kp.refl _ _, fun e => absurd e (by simp)⟩
  clear h hW hO HS hsz hlen hn
  cases q_pages : eqB f [112, 97, 103, 101, 115] with
  | true =>
    have z_pages : (f.toList == [112, 97, 103, 101, 115]) = true := q_pages
    have HT : take1 (f :: rest) td = numT true rest td := by simp only [take1, q_pages, if_true, Bool.false_eq_true, if_false]
    rw [HT]
    have HC := HN true (eqB_data q_pages)
    obtain ⟨RV, hRV⟩ : ∃ RV, numT true rest td = RV := ⟨_, rfl⟩
    rw [hRV] at HC ⊢
    clear HN HR HF0 HF1 HF2 HE HT hRV q_pages
    go_enter Tryd.func52, Tryd.ntmps52
    go_wp2_with fail
    refine HC.mono ?_
    rintro e w2 hR
    have E := hR.1
    subst E
    have HH := Lib.hid hR
    clear hR HC
    go_wp2_with fail
    all_goals (go_ret; exact HH.out)
  | false =>
    have z_pages : (f.toList == [112, 97, 103, 101, 115]) = false := q_pages
    cases q_budget : eqB f [98, 117, 100, 103, 101, 116] with
    | true =>
      have z_budget : (f.toList == [98, 117, 100, 103, 101, 116]) = true := q_budget
      have HT : take1 (f :: rest) td = numT false rest td := by simp only [take1, q_pages, q_budget, if_true, Bool.false_eq_true, if_false]
      rw [HT]
      have HC := HN false (eqB_data q_budget)
      obtain ⟨RV, hRV⟩ : ∃ RV, numT false rest td = RV := ⟨_, rfl⟩
      rw [hRV] at HC ⊢
      clear HN HR HF0 HF1 HF2 HE HT hRV q_pages q_budget
      go_enter Tryd.func52, Tryd.ntmps52
      go_wp2_with fail
      refine HC.mono ?_
      rintro e w2 hR
      have E := hR.1
      subst E
      have HH := Lib.hid hR
      clear hR HC
      go_wp2_with fail
      all_goals (go_ret; exact HH.out)
    | false =>
      have z_budget : (f.toList == [98, 117, 100, 103, 101, 116]) = false := q_budget
      cases q_rom : eqB f [114, 111, 109] with
      | true =>
        have z_rom : (f.toList == [114, 111, 109]) = true := q_rom
        have HT : take1 (f :: rest) td = pieceT rest td := by simp only [take1, q_pages, q_budget, q_rom, if_true, Bool.false_eq_true, if_false]
        rw [HT]
        have HC := HR q_rom
        obtain ⟨RV, hRV⟩ : ∃ RV, pieceT rest td = RV := ⟨_, rfl⟩
        rw [hRV] at HC ⊢
        clear HN HR HF0 HF1 HF2 HE HT hRV q_pages q_budget q_rom
        go_enter Tryd.func52, Tryd.ntmps52
        go_wp2_with fail
        refine HC.mono ?_
        rintro e w2 hR
        have E := hR.1
        subst E
        have HH := Lib.hid hR
        clear hR HC
        go_wp2_with fail
        all_goals (go_ret; exact HH.out)
      | false =>
        have z_rom : (f.toList == [114, 111, 109]) = false := q_rom
        cases q_vdc : eqB f [118, 100, 99] with
        | true =>
          have z_vdc : (f.toList == [118, 100, 99]) = true := q_vdc
          have HT : take1 (f :: rest) td = feedT 0 rest td := by simp only [take1, q_pages, q_budget, q_rom, q_vdc, if_true, Bool.false_eq_true, if_false]
          rw [HT]
          have HC := HF0 q_rom q_vdc
          obtain ⟨RV, hRV⟩ : ∃ RV, feedT 0 rest td = RV := ⟨_, rfl⟩
          rw [hRV] at HC ⊢
          clear HN HR HF0 HF1 HF2 HE HT hRV q_pages q_budget q_rom q_vdc
          go_enter Tryd.func52, Tryd.ntmps52
          go_wp2_with fail
          refine HC.mono ?_
          rintro e w2 hR
          have E := hR.1
          subst E
          have HH := Lib.hid hR
          clear hR HC
          go_wp2_with fail
          all_goals (go_ret; exact HH.out)
        | false =>
          have z_vdc : (f.toList == [118, 100, 99]) = false := q_vdc
          cases q_vce : eqB f [118, 99, 101] with
          | true =>
            have z_vce : (f.toList == [118, 99, 101]) = true := q_vce
            have HT : take1 (f :: rest) td = feedT 1 rest td := by simp only [take1, q_pages, q_budget, q_rom, q_vdc, q_vce, if_true, Bool.false_eq_true, if_false]
            rw [HT]
            have HC := HF1 q_rom q_vdc q_vce
            obtain ⟨RV, hRV⟩ : ∃ RV, feedT 1 rest td = RV := ⟨_, rfl⟩
            rw [hRV] at HC ⊢
            clear HN HR HF0 HF1 HF2 HE HT hRV q_pages q_budget q_rom q_vdc q_vce
            go_enter Tryd.func52, Tryd.ntmps52
            go_wp2_with fail
            refine HC.mono ?_
            rintro e w2 hR
            have E := hR.1
            subst E
            have HH := Lib.hid hR
            clear hR HC
            go_wp2_with fail
            all_goals (go_ret; exact HH.out)
          | false =>
            have z_vce : (f.toList == [118, 99, 101]) = false := q_vce
            cases q_port : eqB f [112, 111, 114, 116] with
            | true =>
              have z_port : (f.toList == [112, 111, 114, 116]) = true := q_port
              have HT : take1 (f :: rest) td = feedT 2 rest td := by simp only [take1, q_pages, q_budget, q_rom, q_vdc, q_vce, q_port, if_true, Bool.false_eq_true, if_false]
              rw [HT]
              have HC := HF2 q_rom q_vdc q_vce
              obtain ⟨RV, hRV⟩ : ∃ RV, feedT 2 rest td = RV := ⟨_, rfl⟩
              rw [hRV] at HC ⊢
              clear HN HR HF0 HF1 HF2 HE HT hRV q_pages q_budget q_rom q_vdc q_vce q_port
              go_enter Tryd.func52, Tryd.ntmps52
              go_wp2_with fail
              refine HC.mono ?_
              rintro e w2 hR
              have E := hR.1
              subst E
              have HH := Lib.hid hR
              clear hR HC
              go_wp2_with fail
              all_goals (go_ret; exact HH.out)
            | false =>
              have z_port : (f.toList == [112, 111, 114, 116]) = false := q_port
              cases q_up : eqB f [117, 112] with
              | true =>
                have z_up : (f.toList == [117, 112]) = true := q_up
                have HT : take1 (f :: rest) td = edgeT true rest td := by simp only [take1, q_pages, q_budget, q_rom, q_vdc, q_vce, q_port, q_up, if_true, Bool.false_eq_true, if_false]
                rw [HT]
                have HC := HE true q_up
                obtain ⟨RV, hRV⟩ : ∃ RV, edgeT true rest td = RV := ⟨_, rfl⟩
                rw [hRV] at HC ⊢
                clear HN HR HF0 HF1 HF2 HE HT hRV q_pages q_budget q_rom q_vdc q_vce q_port q_up
                go_enter Tryd.func52, Tryd.ntmps52
                go_wp2_with fail
                refine HC.mono ?_
                rintro e w2 hR
                have E := hR.1
                subst E
                have HH := Lib.hid hR
                clear hR HC
                go_wp2_with fail
                all_goals (go_ret; exact HH.out)
              | false =>
                have z_up : (f.toList == [117, 112]) = false := q_up
                cases q_down : eqB f [100, 111, 119, 110] with
                | true =>
                  have z_down : (f.toList == [100, 111, 119, 110]) = true := q_down
                  have HT : take1 (f :: rest) td = edgeT false rest td := by simp only [take1, q_pages, q_budget, q_rom, q_vdc, q_vce, q_port, q_up, q_down, if_true, Bool.false_eq_true, if_false]
                  rw [HT]
                  have HC := HE false q_up
                  obtain ⟨RV, hRV⟩ : ∃ RV, edgeT false rest td = RV := ⟨_, rfl⟩
                  rw [hRV] at HC ⊢
                  clear HN HR HF0 HF1 HF2 HE HT hRV q_pages q_budget q_rom q_vdc q_vce q_port q_up q_down
                  go_enter Tryd.func52, Tryd.ntmps52
                  go_wp2_with fail
                  refine HC.mono ?_
                  rintro e w2 hR
                  have E := hR.1
                  subst E
                  have HH := Lib.hid hR
                  clear hR HC
                  go_wp2_with fail
                  all_goals (go_ret; exact HH.out)
                | false =>
                  have z_down : (f.toList == [100, 111, 119, 110]) = false := q_down
                  have HT : take1 (f :: rest) td = (10, td) := by simp only [take1, q_pages, q_budget, q_rom, q_vdc, q_vce, q_port, q_up, q_down, Bool.false_eq_true, if_false]
                  rw [HT]
                  clear HN HR HF0 HF1 HF2 HE HT q_pages q_budget q_rom q_vdc q_vce q_port q_up q_down
                  go_enter Tryd.func52, Tryd.ntmps52
                  go_wp2_with fail
                  all_goals (go_ret; exact K10.out)
end Go.Proofs.YtnhnphifhkkboaaDoor
