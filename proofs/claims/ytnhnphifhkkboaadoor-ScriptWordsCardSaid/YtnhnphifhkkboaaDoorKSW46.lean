/-
  Texts of these proofs, one behind the other: Scr34.
-/
import Derived.Test.YtnhnphifhkkboaaDoorKSW43
import Derived.Test.YtnhnphifhkkboaaDoorKSW44
import Derived.Test.YtnhnphifhkkboaaDoorKSW34
import Derived.Test.YtnhnphifhkkboaaDoorKSW22
import Derived.Test.YtnhnphifhkkboaaDoorKSW37
import Derived.Test.YtnhnphifhkkboaaDoorKSW45
namespace Go.Proofs.YtnhnphifhkkboaaDoor
open Go.RowKit Go.Shelf
set_option linter.unusedVariables false
set_option linter.unusedSimpArgs false
set_option maxRecDepth 100000
attribute [local go_sem] Oper.semAt_some
/-- A line of words, with byte 10 behind. -/
def lineB (ws : List ByteArray) : ByteArray := joinB ws ++ ⟨#[10]⟩
def fedLine (wd : ByteArray) (z : Nat → Int) (n k : Nat) : ByteArray := lineB [wd, joinB (dgL (fun i => z (16 * k + i)) (rwN n k))]
def fedL (wd : ByteArray) (z : Nat → Int) (n : Nat) : List ByteArray := (rwL n).map fun x => fedLine wd z n x.val
theorem own_from {W W' : World} {B e s n : Nat} {v : Value} {xs : List Value} {row : Option Nat} (h : W.ownsRow B e s v n xs) (hg : W.grownBy W' row) (hr : ∀ r, row = some r → ∃ o : Obj, W.heap[r]? = some o ∧ o.isCells = false) : W'.ownsRow B e s v n xs := by
  refine h.kept hg ?_
  cases hb : v.ownBlock with
  | none => exact .inl rfl
  | some q =>
    refine .inr fun e => ?_
    obtain ⟨_, c, hq⟩ := own_has h hb
    obtain ⟨o, ho, hc⟩ := hr q e.symm
    have h' : W.heap[q]? = some (Obj.cells c _ (0, 0)) := hq
    rw [h'] at ho
    cases ho
    exact absurd hc (by simp [Obj.isCells])
theorem rblk_own {W W' : World} {g : Nat} {t : TypeId} {cs : Array Value} {row : Option Nat} (h : Blk W g t cs) (hg : W.grownBy W' row) (hr : ∀ r, row = some r → ∃ o : Obj, W.heap[r]? = some o ∧ o.isCells = false) : Blk W' g t cs :=
  h.grown hg fun e => by
    obtain ⟨o, ho, hc⟩ := hr g e.symm
    have h' : W.heap[g]? = some (Obj.cells cs t (0, 0)) := h
    rw [h'] at ho
    cases ho
    exact absurd hc (by simp [Obj.isCells])
theorem rblk_put {W : World} {g l : Nat} {t : TypeId} {cs : Array Value} (h : Blk W g t cs) {o o' : Obj} (ho : W.heap[l]? = some o) (hc : o.isCells = false) : Blk (W.putObj l o') g t cs :=
  rblk_own h (grownBy_putObj' W l o') fun r e => ⟨o, by cases e; exact ho, hc⟩
/-- What is held between the lines of a feed. -/
def FdI (w : World) (B lb wb tb : Nat) (TV : Value) (wd : ByteArray) (f : Nat → ByteArray) {m : Nat} (pre : List (Fin m)) (W1 : World) : Prop :=
  (∃ v, W1.ownsRow B 9 1 v pre.length ((pre.map fun x => f x.val).map Value.string) ∧ Blk W1 lb 45 #[v]) ∧ Blk W1 wb 9 #[.string wd] ∧ Blk W1 tb 22 #[TV] ∧ B ≤ W1.heap.size
theorem row_at {w : World} {A : Option Addr} {n c k : Nat} {z : Nat → Int} (R : IRow w .u8 A n z) (hk : 16 * k < n) (hc : n ≤ c) : IRow w .u8 (rwP A c k) (rwN n k) (fun i => z (16 * k + i)) := by
  have h := R.cut (e := 16 * k) (c := c) (by omega) hc
  exact IRow.less h (by unfold rwN; omega)
theorem join_le (ws : List ByteArray) (m : Nat) (h : ∀ x ∈ ws, x.size ≤ m) : (joinB ws).size ≤ (m + 1) * ws.length := by
  cases ws with
  | nil => exact Nat.zero_le _
  | cons x r =>
    show (Lib.join ((x :: r).map (·.data.toList)) [32]).toArray.size ≤ _
    rw [List.size_toArray, List.map_cons, Lib.join_length]
    have hl : ∀ l : List ByteArray, (∀ y ∈ l, y.size ≤ m) → Lib.lens (l.map (·.data.toList)) ≤ m * l.length := by
      intro l
      induction l with
      | nil => intro _; exact Nat.zero_le _
      | cons y l ih =>
        intro h2
        have h3 := ih (fun q hq => h2 q (List.mem_cons_of_mem _ hq))
        have h4 := h2 y (by simp)
        have h5 : y.data.toList.length = y.size := Array.length_toList
        unfold Lib.lens at h3 ⊢
        simp only [List.map_cons, List.sum_cons, List.length_cons, Nat.mul_add, h5]
        omega
    have := hl (x :: r) h
    simp only [List.map_cons, List.length_cons, List.length_map, List.length_nil, Nat.add_mul, Nat.mul_add] at this ⊢
    omega
theorem keepsOthers_below {W W' : World} (h : Below W.heap.size W W') : KeepsOthers W W' := ⟨h.size, fun j o hj _ => (h.block j (Array.getElem?_eq_some_iff.1 hj).1).trans hj⟩
theorem hx2_size (x : Int) : (hx2 x).size = 2 := (Array.length_toList (xs := (hx2 x).data)).symm.trans (hx2_len x)
theorem dgJ_le (z : Nat → Int) (n : Nat) : (joinB (dgL z n)).size ≤ 3 * n := by
  have := join_le (dgL z n) 2 (fun x hx => by
    obtain ⟨i, _, rfl⟩ := List.mem_map.1 hx
    exact Nat.le_of_eq (hx2_size _))
  rw [dgL_len] at this
  omega
theorem frow_two {w : World} {g : Nat} {t : TypeId} {a b : ByteArray} (h : Blk w g t #[.string a, .string b]) : SRow w (some ⟨g, 0, none⟩) [a, b] := fun i x hx => by
  refine ⟨_, rfl, h.lt, ?_⟩
  rw [add_zero_block, h.cell i]
  match i, hx with
  | 0, hx => cases hx; rfl
  | 1, hx => cases hx; rfl
theorem frow_three {w : World} {g : Nat} {t : TypeId} {a b c : ByteArray} (h : Blk w g t #[.string a, .string b, .string c]) : SRow w (some ⟨g, 0, none⟩) [a, b, c] := fun i x hx => by
  refine ⟨_, rfl, h.lt, ?_⟩
  rw [add_zero_block, h.cell i]
  match i, hx with
  | 0, hx => cases hx; rfl
  | 1, hx => cases hx; rfl
  | 2, hx => cases hx; rfl
theorem scline2_any {w : World} {g : Nat} {t : TypeId} {a b : ByteArray} (h : Blk w g t #[.string a, .string b]) (ha : a.size ≤ 1000000) (hb : b.size ≤ 1000000) :
    Calls Tryd.prog 56 #[.slice (some ⟨g, 0, none⟩) 2 2] w fun e w' => e = .returned (.string (lineB [a, b])) ∧ Below w.heap.size w w' :=
  scwords_any [a, b] g 0 2 (frow_two h) (by simp) (by simp) (by simp) (by
    have := join_le [a, b] 1000000 (fun x hx => by
      rcases List.mem_cons.1 hx with rfl | hx
      · exact ha
      · rw [List.mem_singleton.1 hx]; exact hb)
    simp only [List.length_cons, List.length_nil] at this
    omega)
theorem scline3_any {w : World} {g : Nat} {t : TypeId} {a b c : ByteArray} (h : Blk w g t #[.string a, .string b, .string c]) (ha : a.size ≤ 1000000) (hb : b.size ≤ 1000000) (hc : c.size ≤ 1000000) :
    Calls Tryd.prog 56 #[.slice (some ⟨g, 0, none⟩) 3 3] w fun e w' => e = .returned (.string (lineB [a, b, c])) ∧ Below w.heap.size w w' :=
  scwords_any [a, b, c] g 0 3 (frow_three h) (by simp) (by simp) (by simp) (by
    have := join_le [a, b, c] 1000000 (fun x hx => by
      rcases List.mem_cons.1 hx with rfl | hx
      · exact ha
      · rcases List.mem_cons.1 hx with rfl | hx
        · exact hb
        · rw [List.mem_singleton.1 hx]; exact hc)
    simp only [List.length_cons, List.length_nil] at this
    omega)
theorem rown_form {W : World} {base size n : Nat} {e : TypeId} {v : Value} {xs : List Value} (h : W.ownsRow base e size v n xs) (hn : 0 < n) : ∃ b c, v = .slice (some ⟨b, 0, none⟩) n c := by
  rcases h.2 with ⟨_, h0⟩ | ⟨g, cap, cur, hv, _⟩
  · omega
  · exact ⟨g, cap, hv⟩
theorem rown_mono {W : World} {b b' size n : Nat} {e : TypeId} {v : Value} {xs : List Value} (h : W.ownsRow b e size v n xs) (hb : b' ≤ b) : W.ownsRow b' e size v n xs := by
  refine ⟨h.1, ?_⟩
  rcases h.2 with h0 | ⟨g, cap, cur, hv, hg, r⟩
  · exact .inl h0
  · exact .inr ⟨g, cap, cur, hv, Nat.le_trans hb hg, r⟩
theorem own_cells {w : World} {B e s n : Nat} {v : Value} {xs : List Value} (h : w.ownsRow B e s v n xs) : ∀ (j : Nat) (o : Obj), v.ownBlock = some j → w.heap[j]? = some o → o.isCells = true := fun j o hj ho => by
  obtain ⟨_, c, hq⟩ := own_has h hj
  have h' : w.heap[j]? = some (Obj.cells c _ (0, 0)) := hq
  rw [h'] at ho
  cases ho
  rfl
set_option maxHeartbeats 16000000 in
theorem scfed_any {w : World} (wd : ByteArray) (hwd : wd.size ≤ 10) {A : Option Addr} {n c : Nat} {z : Nat → Int} (hnc : n ≤ c) (hn : n ≤ 1000000) (R : IRow w .u8 A n z) :
    Calls Tryd.prog 59 #[.string wd, .slice A n c] w fun e w' => ∃ v, e = .returned v ∧ w'.ownsRow w.heap.size 9 1 v (fedL wd z n).length ((fedL wd z n).map Value.string) ∧ Below w.heap.size w w' := by
  have HR := Lib.hid R
  clear R
  refine (callsIn_wide (n := 6)).1 ?_
  refine callsIn_of_wp_marks Tryd.func59 rfl trivial ?_ rfl
  simp only [Tryd.ntmps59, List.size_toArray, List.length_cons, List.length_nil, Nat.reduceAdd, Nat.reduceSub, Array.replicate_succ, Array.replicate_zero, List.push_toArray, List.append_toArray, List.nil_append, List.cons_append]
  gi_wp2
  refine ⟨trivial, callsIn_wide.2 ?_⟩
  have k0 : Blk ((w.alloc (.cells #[.string wd] 9)).alloc (.cells #[.slice none 0 0] 45)) w.heap.size 9 #[.string wd] := (Blk.new w _ _).alloc _
  have k1 : Blk ((w.alloc (.cells #[.string wd] 9)).alloc (.cells #[.slice none 0 0] 45)) (w.heap.size + 1) 45 #[.slice none 0 0] := Blk.new_ (by simp)
  have hB2 : Below w.heap.size w ((w.alloc (.cells #[.string wd] 9)).alloc (.cells #[.slice none 0 0] 45)) := ((Below.refl _ w).alloc (Nat.le_refl _) _).alloc (by simp) _
  have hs2 : (World.heap ((w.alloc (.cells #[.string wd] 9)).alloc (.cells #[.slice none 0 0] 45))).size = w.heap.size + 2 := by simp
  generalize World.alloc (World.alloc w _) _ = w2 at *
  refine (scrows_any A n c w2).mono ?_
  rintro e w3 ⟨rfl, hw3⟩
  have hb3 : Blk w3 w2.heap.size 22 #[.slice A n c] := hw3 ▸ Blk.new _ _ _
  have k03 : Blk w3 w.heap.size 9 #[.string wd] := hw3 ▸ k0.alloc _
  have k13 : Blk w3 (w.heap.size + 1) 45 #[.slice none 0 0] := hw3 ▸ k1.alloc _
  have hB3 : Below w.heap.size w w3 := hw3 ▸ hB2.alloc hB2.size _
  have hs3 : w3.heap.size = w.heap.size + 3 := by rw [hw3]; simp; omega
  rw [hs2] at hb3 ⊢
  obtain ⟨wb, hwb⟩ : ∃ q, w.heap.size = q := ⟨_, rfl⟩
  obtain ⟨lb, hlb⟩ : ∃ q, wb + 1 = q := ⟨_, rfl⟩
  obtain ⟨tb, htb⟩ : ∃ q, wb + 2 = q := ⟨_, rfl⟩
  rw [hwb] at hb3 k03 k13 hs3 ⊢
  rw [hlb] at k13 ⊢
  rw [htb] at hb3 ⊢
  have HN := Lib.hid (And.intro hwb (And.intro hlb (And.intro htb hs3)))
  have HI3 := Lib.hid (And.intro k03 (And.intro k13 hB3))
  have HB3 := Lib.hid hb3
  clear hw3 k0 k1 hB2 hs2 k03 k13 hB3 hs3 hb3 hwb hlb htb
  gi_wp2
  refine wpIn_rangeFunc_ownF rfl (by omega) (gf := 130) (lb := #[.pointer (some ⟨tb, 0, none⟩)]) rfl trivial (enters_of Tryd.func130 (by kernel_rfl) rfl)
    (rows_stops 5 (by omega) A n c hnc (by omega) tb w3 HB3.out) (fun h k hb => k (h hb)) (fun W l o o' _ ho hc _ h => rblk_put h ho hc) (Below.refl _ _) (fun _ => rfl)
    (fun pre W1 => FdI w w3.heap.size lb wb tb (.slice A n c) wd (fedLine wd z n) pre W1 ∧ Below w.heap.size w W1)
    (fun c pre W1 => False)
    (OwnFrom.and (I := fun pre W1 => FdI w w3.heap.size lb wb tb (.slice A n c) wd (fedLine wd z n) pre W1) (fun s X Y row hs hg hr => by
      obtain ⟨⟨v, h1, h2⟩, h3, h5, h4⟩ := hs
      exact ⟨⟨v, own_from h1 hg (fun r e => (hr r e).2), rblk_own h2 hg (fun r e => (hr r e).2)⟩, rblk_own h3 hg (fun r e => (hr r e).2), rblk_own h5 hg (fun r e => (hr r e).2), Nat.le_trans h4 hg.size⟩) (ownFrom_below (Nat.le_refl _) (by have := HN.out.2.2.2; have := HN.out.1; omega)))
    (fun c s X Y row hs hg hr => hs)
    ⟨⟨⟨_, World.ownsRow_nil _ _ _ _, HI3.out.2.1⟩, HI3.out.1, HB3.out, Nat.le_refl _⟩, HI3.out.2.2⟩
    (fun x => { tmps := #[.string wd, .slice A n c, .pointer (some ⟨wb, 0, none⟩), undef, .slice none 0 0, .pointer (some ⟨lb, 0, none⟩), undef, .slice (rwP A c x.val) (rwN n x.val) (c - 16 * x.val), .slice A n c, .func (.func 130) #[] #[.pointer (some ⟨tb, 0, none⟩)], .int .i64 ((16 * x.val : Nat) : Int), .slice (rwP A c x.val) (rwN n x.val) (c - 16 * x.val), undef, undef, undef, undef, undef, undef, undef, undef, undef], defers := [] }) ?assign ?body ?done ?stop
  case assign =>
    intro l x W1 K hK
    unfold rwX
    gi_wp2
    exact hK
  case body =>
    rintro l pre x W1 ⟨⟨⟨v, own, kl⟩, kw, kt, hsz⟩, hB1⟩ hlt
    obtain ⟨k, hk⟩ := x
    have h16 := rw_lt.1 hk
    have hcn : rwCnt n ≤ 1000000 := by unfold rwCnt; omega
    have c0 : W1.cell? ⟨lb, 0, none⟩ = some v := kl.cell 0
    have c1 : W1.cell? ⟨wb, 0, none⟩ = some (.string wd) := kw.cell 0
    have hrw : rwN n k ≤ 16 := by unfold rwN; omega
    have HRow := Lib.hid (fun (W : World) (hb : Below w.heap.size w W) => row_at (HR.out.keep hb) h16 hnc)
    have HD := Lib.hid (fun (W : World) (hb : Below w.heap.size w W) => scdigits_any (c := c - 16 * k) (by omega) (HRow.out W hb))
    have HLI : Hid (fedLine wd z n k = lineB [wd, joinB (dgL (fun i => z (16 * k + i)) (rwN n k))]) := Lib.hid rfl
    have hJs : (joinB (dgL (fun i => z (16 * k + i)) (rwN n k))).size ≤ 1000000 := Nat.le_trans (dgJ_le _ _) (by omega)
    obtain ⟨J, hJ⟩ : ∃ J, joinB (dgL (fun i => z (16 * k + i)) (rwN n k)) = J := ⟨_, rfl⟩
    rw [hJ] at HD HLI hJs
    have HJS := Lib.hid hJs
    have OWN := Lib.hid own
    have KL := Lib.hid kl
    have KW := Lib.hid kw
    have KT := Lib.hid kt
    have HB1 := Lib.hid hB1
    clear own kl kw kt hB1 hJ hJs HRow
    gi_wp2
    refine rz_begin (S := fun w' => w'.cell? ⟨lb, 0, none⟩ = some v ∧ w'.cell? ⟨wb, 0, none⟩ = some (.string wd)) 8 9 #[false, false, false, false, false, false, false, false, false] (by kernel_rfl) (by kernel_rfl) (by kernel_rfl) ?_ (fun hHeld => ?_)
    · exact ⟨c0, c1⟩
    refine rz_take (i := 0) (d := some 12) (l := #[true, false, false, false, false, false, false, false, false]) (fuel := 8) (v := ?_) (fun _ => trivial) (by kernel_rfl) rfl (by kernel_rfl) (by kernel_rfl) (by kernel_rfl) (by kernel_rfl) (by kernel_rfl) (by kernel_rfl) (by kernel_rfl) (by kernel_rfl) (fun _ _ _ h => h) (by kernel_rfl) ?_ (by assumption) ?_
    rotate_left 1
    · (intro wS hSw; (try dsimp only at hSw); go_simp; try with_reducible rfl)
    try simp only [Act.put, List.setIfInBounds_toArray, List.set_cons_zero, List.set_cons_succ]
    refine rz_take (i := 1) (d := some 13) (l := #[true, true, false, false, false, false, false, false, false]) (fuel := 7) (v := ?_) (fun _ => trivial) (by kernel_rfl) rfl (by kernel_rfl) (by kernel_rfl) (by kernel_rfl) (by kernel_rfl) (by kernel_rfl) (by kernel_rfl) (by kernel_rfl) (by kernel_rfl) (fun _ _ _ h => h) (by kernel_rfl) ?_ (by assumption) ?_
    rotate_left 1
    · (intro wS hSw; (try dsimp only at hSw); go_simp; try with_reducible rfl)
    try simp only [Act.put, List.setIfInBounds_toArray, List.set_cons_zero, List.set_cons_succ]
    refine rz_take (i := 2) (d := some 14) (l := #[true, true, true, false, false, false, false, false, false]) (fuel := 6) (v := ?_) (fun _ => trivial) (by kernel_rfl) rfl (by kernel_rfl) (by kernel_rfl) (by kernel_rfl) (by kernel_rfl) (by kernel_rfl) (by kernel_rfl) (by kernel_rfl) (by kernel_rfl) (fun _ _ _ h => h) (by kernel_rfl) ?_ (by assumption) ?_
    rotate_left 1
    · (intro wS hSw; (try dsimp only at hSw); go_simp; try with_reducible rfl)
    try simp only [Act.put, List.setIfInBounds_toArray, List.set_cons_zero, List.set_cons_succ]
    refine rz_last (i := 3) (l := #[true, true, true, true, false, false, false, false, false]) (fuel := 5) (by kernel_rfl) rfl (by kernel_rfl) (by kernel_rfl) (fun K hK => ?_)
    unfold Oper.wpIn
    refine ⟨fun _ _ => trivial, ?_⟩
    go_simp
    refine (CallsIn.inRound l (callsIn_wide.2 (HD.out _ HB1.out.drew))).mono ?_
    rintro e w4 ⟨rfl, b4⟩
    refine hK.out _ _ ?_ (fun hHeld => ?_)
    · (try dsimp only); intro hZ; exact ⟨(b4.cell (p := ⟨lb, 0, none⟩) KL.out.lt).trans c0, (b4.cell (p := ⟨wb, 0, none⟩) KW.out.lt).trans c1⟩
    clear hK K
    try simp only [Act.put, List.setIfInBounds_toArray, List.set_cons_zero, List.set_cons_succ]
    have OWN4 := Lib.hid (own_below (own_below OWN.out (Below.refl _ _).drew) b4)
    have KL4 := Lib.hid (Blk.below (KL.out.drew_) b4 KL.out.lt)
    have KW4 := Lib.hid (Blk.below (KW.out.drew_) b4 KW.out.lt)
    have KT4 := Lib.hid (Blk.below (KT.out.drew_) b4 KT.out.lt)
    have HB4 := Lib.hid (HB1.out.drew.trans (b4.mono HB1.out.size))
    have OT4 := Lib.hid (keepsOthers_below b4)
    clear OWN KL KW KT c0 c1 b4 HD hHeld
    refine rz_last (i := 4) (l := #[true, true, true, true, true, false, false, false, false]) (fuel := 4) (by kernel_rfl) rfl (by kernel_rfl) (by kernel_rfl) (fun K hK => ?_)
    unfold Oper.wpIn
    refine ⟨fun _ _ => trivial, ?_⟩
    go_simp
    refine hK.out _ _ ?_ (fun hHeld => ?_)
    · (try dsimp only); intro hZ; exact ⟨(KL4.out.alloc _).cell 0, (KW4.out.alloc _).cell 0⟩
    clear hK K
    try simp only [Act.put, List.setIfInBounds_toArray, List.set_cons_zero, List.set_cons_succ]
    have OWN5 := Lib.hid (own_below OWN4.out ((Below.refl _ w4).alloc (Nat.le_refl _) (.cells #[.string wd, .string J] 9)))
    have KL5 := Lib.hid (KL4.out.alloc (.cells #[.string wd, .string J] 9))
    have KW5 := Lib.hid (KW4.out.alloc (.cells #[.string wd, .string J] 9))
    have KT5 := Lib.hid (KT4.out.alloc (.cells #[.string wd, .string J] 9))
    have HB5 := Lib.hid (HB4.out.alloc HB4.out.size (.cells #[.string wd, .string J] 9))
    have OT5 := Lib.hid (OT4.out.trans (KeepsOthers.alloc w4 (.cells #[.string wd, .string J] 9)))
    have NB5 := Lib.hid (Blk.new w4 9 #[.string wd, .string J])
    clear OWN4 KL4 KW4 KT4 HB4 OT4 hHeld
    generalize World.alloc w4 _ = w5 at *
    generalize w4.heap.size = g4 at *
    refine rz_last (i := 5) (l := #[true, true, true, true, true, true, false, false, false]) (fuel := 3) (by kernel_rfl) rfl (by kernel_rfl) (by kernel_rfl) (fun K hK => ?_)
    unfold Oper.wpIn
    refine ⟨fun _ _ => trivial, ?_⟩
    go_simp
    refine (CallsIn.inRound l (callsIn_wide.2 (scline2_any NB5.out (Nat.le_trans hwd (by decide)) HJS.out))).mono ?_
    rintro e w6 ⟨rfl, b6⟩
    refine hK.out _ _ ?_ (fun hHeld => ?_)
    · (try dsimp only); intro hZ; exact ⟨(KL5.out.below b6 KL5.out.lt).cell 0, (KW5.out.below b6 KW5.out.lt).cell 0⟩
    clear hK K
    try simp only [Act.put, List.setIfInBounds_toArray, List.set_cons_zero, List.set_cons_succ]
    have OWN6 := Lib.hid (own_below OWN5.out b6)
    have KL6 := Lib.hid (KL5.out.below b6 KL5.out.lt)
    have KW6 := Lib.hid (KW5.out.below b6 KW5.out.lt)
    have KT6 := Lib.hid (KT5.out.below b6 KT5.out.lt)
    have HB6 := Lib.hid (HB5.out.trans (b6.mono HB5.out.size))
    have OT6 := Lib.hid (OT5.out.trans (keepsOthers_below b6))
    clear OWN5 KL5 KW5 KT5 HB5 OT5 hHeld b6 NB5
    rw [← HLI.out]
    obtain ⟨LN, hLN⟩ : ∃ q, fedLine wd z n k = q := ⟨_, rfl⟩
    have HLN := Lib.hid hLN
    rw [hLN]
    clear hLN
    refine rz_last (i := 6) (l := #[true, true, true, true, true, true, true, false, false]) (fuel := 2) (by kernel_rfl) rfl (by kernel_rfl) (by kernel_rfl) (fun K hK => ?_)
    unfold Oper.wpIn
    refine ⟨fun _ _ => trivial, ?_⟩
    go_simp
    refine hK.out _ _ ?_ (fun hHeld => ?_)
    · (try dsimp only); intro hZ; exact ⟨(KL6.out.alloc _).cell 0, (KW6.out.alloc _).cell 0⟩
    clear hK K
    try simp only [Act.put, List.setIfInBounds_toArray, List.set_cons_zero, List.set_cons_succ]
    obtain ⟨v7, w7, hrun, own7, hB7, hg7⟩ := sr_more OWN6.out (Below.refl _ w6) (Nat.le_trans hsz OT6.out.size) (by omega) LN
    obtain ⟨b7, c7, rfl⟩ := rown_form own7 (by omega)
    have KL7 := Lib.hid ((KL6.out.alloc (.cells #[.string LN] 9)).grown hg7 (own_ne (own_below OWN6.out ((Below.refl _ w6).alloc (Nat.le_refl _) (.cells #[.string LN] 9))) _ _ _ (KL6.out.alloc (.cells #[.string LN] 9)) (by decide)))
    have hwn : some wb ≠ v.ownBlock := fun e => by have h1 := (OWN6.out.lt wb e.symm).1; have h2 := HN.out.2.2.2; omega
    have KW7 := Lib.hid ((KW6.out.alloc (.cells #[.string LN] 9)).grown hg7 hwn)
    have KT7 := Lib.hid ((KT6.out.alloc (.cells #[.string LN] 9)).grown hg7 (own_ne (own_below OWN6.out ((Below.refl _ w6).alloc (Nat.le_refl _) (.cells #[.string LN] 9))) _ _ _ (KT6.out.alloc (.cells #[.string LN] 9)) (by decide)))
    have HB7 : Hid (Below w.heap.size w w7) := Lib.hid ((HB6.out.alloc HB6.out.size (.cells #[.string LN] 9)).grown hg7 (by simp; have := HB6.out.size; omega) (fun i h => by have h1 := (OWN6.out.lt i h).1; have h2 := HN.out.2.2.2; have h3 := HN.out.1; omega))
    have OT7 := Lib.hid ((OT6.out.trans (KeepsOthers.alloc w6 (.cells #[.string LN] 9))).trans (KeepsOthers.of_grownBy hg7 (own_cells (own_below OWN6.out ((Below.refl _ w6).alloc (Nat.le_refl _) (.cells #[.string LN] 9))))))
    have OWN7 := Lib.hid own7
    clear OWN6 KL6 KW6 KT6 HB6 OT6 own7 hB7 hg7 hwn hHeld
    refine rz_last (i := 7) (l := #[true, true, true, true, true, true, true, true, false]) (fuel := 1) (by kernel_rfl) rfl (by kernel_rfl) (by kernel_rfl) (fun K hK => ?_)
    refine wpIn_append_any (.tmp 12) (.tmp 18) 45 rfl rfl rfl hrun ?_
    refine hK.out _ _ ?_ (fun hHeld => ?_)
    · (try dsimp only); intro hZ; exact ⟨KL7.out.cell 0, KW7.out.cell 0⟩
    clear hK K
    try simp only [Act.put, List.setIfInBounds_toArray, List.set_cons_zero, List.set_cons_succ]
    clear hrun hHeld
    have d0 : w7.cell? ⟨lb, 0, none⟩ = some v := KL7.out.cell 0
    have y0 : w7.frozen? ⟨lb, 0, none⟩ = false := KL7.out.frozen 0
    refine rz_last (i := 8) (l := #[true, true, true, true, true, true, true, true, true]) (fuel := 0) (by kernel_rfl) rfl (by kernel_rfl) (by kernel_rfl) (fun K hK => ?_)
    unfold Oper.wpIn
    refine ⟨fun _ _ => trivial, ?_⟩
    go_simp
    refine hK.out _ _ ?_ (fun hHeld => ?_)
    · (try dsimp only); intro hZ; exact absurd hZ (by decide)
    clear hK K
    try simp only [Act.put, List.setIfInBounds_toArray, List.set_cons_zero, List.set_cons_succ]
    clear hHeld d0 y0
    refine rz_done (by kernel_rfl) ?_ _
    have OWN8 := own_kp OWN7.out ((Kp.refl [lb] w7).setCell (p := ⟨lb, 0, none⟩) (.inl (by simp)) (.slice (some ⟨b7, 0, none⟩) (pre.length + 1) c7)) (fun q hq hm => by
      simp only [List.mem_singleton] at hm
      subst hm
      exact own_ne OWN7.out _ _ _ KL7.out (by decide) hq.symm)
    gi_wp2
    refine ⟨((KeepsOthers.drew W1).trans OT7.out).trans (KeepsOthers.setCell _ _ _), fun _ => KT7.out.far (p := ⟨lb, 0, none⟩) (by have := HN.out.2.1; have := HN.out.2.2.1; simp; omega) _, ⟨⟨_, ?_, KL7.out.set_ 0 _⟩, KW7.out.far (p := ⟨lb, 0, none⟩) (by have := HN.out.2.1; simp; omega) _, KT7.out.far (p := ⟨lb, 0, none⟩) (by have := HN.out.2.1; have := HN.out.2.2.1; simp; omega) _, Nat.le_trans hsz (Nat.le_trans OT7.out.size (KeepsOthers.setCell w7 _ _).size)⟩, HB7.out.setCell (p := ⟨lb, 0, none⟩) (by have := HN.out.2.1; have := HN.out.1; simp; omega) _⟩
    rw [List.length_append, List.map_append, List.map_append, List.map_cons, List.map_nil, List.map_cons, List.map_nil, HLN.out]
    exact OWN8
  case done =>
    rintro D xs W1 hD rfl ⟨⟨⟨v, own, kl⟩, kw, kt, hsz⟩, hB1⟩ hK
    have c0 : W1.cell? ⟨lb, 0, none⟩ = some v := kl.cell 0
    have OWN := Lib.hid (rown_mono own (show w.heap.size ≤ w3.heap.size by have := HN.out.1; have := HN.out.2.2.2; omega))
    have HB1 := Lib.hid hB1
    clear own hB1
    gi_wp2
    have hgp := grownBy_putObj' W1 D (Obj.deferred none)
    have hrow : ∀ r, some D = some r → ∃ o : Obj, W1.heap[r]? = some o ∧ o.isCells = false := fun r e => ⟨_, by cases e; exact hK, rfl⟩
    refine ⟨by simp, .inl ⟨_, _, rfl, run_takeDeferred hK, ?_⟩⟩
    have e1 : (rwL n).map (fun x => fedLine wd z n x.val) = fedL wd z n := rfl
    have o2 := own_from OWN.out hgp hrow
    rw [e1, rwL_len, show rwCnt n = (fedL wd z n).length by rw [fedL, List.length_map, rwL_len]] at o2
    refine ⟨_, results_tmp rfl _ _ _, ?_⟩
    exact ⟨_, rfl, o2, HB1.out.grown hgp (by have := HN.out.1; have := HN.out.2.2.2; exact HB1.out.size) (fun i h => by have := HN.out.1; have := HN.out.2.2.2; cases h; omega)⟩
  case stop =>
    rintro D c pre W1 hD hpre hx
    exact hx.elim
end Go.Proofs.YtnhnphifhkkboaaDoor
