/-
  Texts of these proofs, one behind the other: Ent12, Ent13, Ent14, Ent15.
-/
import Derived.Test.YtngfmofjonleeaaGreatKEA48
import Derived.Test.YtngfmofjonleeaaGreatKEA42
import Derived.Test.YtngfmofjonleeaaGreatKEA47
import Derived.Test.YtngfmofjonleeaaGreatKEA43
import Derived.Test.YtngfmofjonleeaaGreatKEA03
import Derived.Laws.StructEq
import Derived.Test.YtngfmofjonleeaaGreatKEA46
namespace Go.Proofs.YtngfmofjonleeaaGreat
open Go.RowKit
set_option linter.unusedVariables false
set_option linter.unusedSimpArgs false
set_option maxRecDepth 100000
set_option maxHeartbeats 16000000
theorem own_kp {W W' : World} {L : List Nat} {base size n : Nat} {e : TypeId} {v : Value} {xs : List Value} (h : W.ownsRow base e size v n xs) (kp : Kp L W W') (hn : ∀ b, v.ownBlock = some b → b ∉ L) : W'.ownsRow base e size v n xs := by
  have hlt := h.lt
  refine ⟨h.1, ?_⟩
  rcases h.2 with hn' | ⟨g, cap, cur, rfl, hg, hgg, rest⟩
  · exact .inl hn'
  · exact .inr ⟨g, cap, cur, rfl, hg, (kp.block g (hlt g rfl).2 (hn g rfl)).trans hgg, rest⟩
/-- What has been made of a plan: pieces, and blocks. -/
def PQe (w0 wr : World) (rows : List (Value × List Sp)) (bl : List (Nat × TypeId × Array Value)) : Prop :=
  Below w0.heap.size w0 wr ∧ (∀ p ∈ rows, wr.ownsRow w0.heap.size 46 4 p.1 p.2.length (spL p.2)) ∧ (∀ x ∈ bl, Blk wr x.1 x.2.1 x.2.2)
theorem PQe.later {w0 wr w' : World} {rows : List (Value × List Sp)} {bl : List (Nat × TypeId × Array Value)} (h : PQe w0 wr rows bl) (hb : Below wr.heap.size wr w') : PQe w0 w' rows bl :=
  ⟨h.1.trans (hb.mono h.1.size), fun p hp => own_belowG (h.2.1 p hp) hb, fun x hx => (h.2.2 x hx).below hb (h.2.2 x hx).lt⟩
theorem PQe.drew {w0 wr : World} {rows : List (Value × List Sp)} {bl : List (Nat × TypeId × Array Value)} (h : PQe w0 wr rows bl) : PQe w0 wr.drew rows bl := h.later (Below.refl _ wr).drew
theorem PQe.row {w0 wr w' : World} {rows : List (Value × List Sp)} {bl : List (Nat × TypeId × Array Value)} {v : Value} {n : Nat} {l : List Sp} (h : PQe w0 wr rows bl) (hb : Below wr.heap.size wr w') (own : w'.ownsRow wr.heap.size 46 4 v n (spL l)) (hn : n = l.length) : PQe w0 w' ((v, l) :: rows) bl := by
  have h2 := h.later hb
  refine ⟨h2.1, fun p hp => ?_, h2.2.2⟩
  rcases List.mem_cons.1 hp with rfl | hp
  · subst hn; exact own_mono2 own h.1.size
  · exact h2.2.1 p hp
theorem PQe.make {w0 wr : World} {rows : List (Value × List Sp)} {bl : List (Nat × TypeId × Array Value)} (h : PQe w0 wr rows bl) (t : TypeId) (cs : Array Value) : PQe w0 (wr.alloc (.cells cs t)) rows ((wr.heap.size, t, cs) :: bl) := by
  have h2 := h.later ((Below.refl _ wr).alloc (Nat.le_refl _) (.cells cs t))
  refine ⟨h2.1, h2.2.1, fun x hx => ?_⟩
  rcases List.mem_cons.1 hx with rfl | hx
  · exact Blk.new _ _ _
  · exact h2.2.2 x hx
theorem PQe.block {w0 wr w' : World} {rows : List (Value × List Sp)} {bl : List (Nat × TypeId × Array Value)} {g : Nat} {t : TypeId} {cs : Array Value} (h : PQe w0 wr rows bl) (hb : Below wr.heap.size wr w') (hk : Blk w' g t cs) : PQe w0 w' rows ((g, t, cs) :: bl) := by
  have h2 := h.later hb
  refine ⟨h2.1, h2.2.1, fun x hx => ?_⟩
  rcases List.mem_cons.1 hx with rfl | hx
  · exact hk
  · exact h2.2.2 x hx
theorem PQe.pushed {w0 wr w' : World} {rows : List (Value × List Sp)} {bl bl' : List (Nat × TypeId × Array Value)} {g : Nat} {cs : Array Value} {v : Value} {n : Nat} {l : List Sp} (h : PQe w0 wr rows bl) (hG : Blk wr g 25 cs) (hg : w0.heap.size ≤ g) (kp : Kp [g] wr w')
    (own : w'.ownsRow wr.heap.size 46 4 v n (spL l)) (hn : n = l.length) (hs : ∀ x ∈ bl', x ∈ bl ∧ x.1 ≠ g) : PQe w0 w' ((v, l) :: rows) bl' := by
  refine ⟨Kp.onto h.1 kp h.1.size (by simpa using hg), fun p hp => ?_, fun x hx => (h.2.2 x (hs x hx).1).kp kp (by simpa using (hs x hx).2)⟩
  rcases List.mem_cons.1 hp with rfl | hp
  · subst hn; exact own_mono2 own h.1.size
  · exact own_kp (h.2.1 p hp) kp (fun b hb hm => blk_not_row hG (by decide) (h.2.1 p hp) (by rw [hb]; simp at hm; rw [hm]))
theorem PQe.four {w0 wr : World} {v1 v2 v3 v4 : Value} {l1 l2 l3 l4 : List Sp} {bl : List (Nat × TypeId × Array Value)} (h : PQe w0 wr [(v4, l4), (v3, l3), (v2, l2), (v1, l1)] bl) (h1 : 0 < l1.length) (h2 : 0 < l2.length) (h3 : 0 < l3.length) (h4 : 0 < l4.length) :
    ∀ p ∈ [(v1, l1), (v2, l2), (v3, l3), (v4, l4)], wr.ownsRow w0.heap.size 46 4 p.1 p.2.length (spL p.2) ∧ 0 < p.2.length := by
  intro p hp
  simp only [List.mem_cons, List.not_mem_nil, or_false] at hp
  rcases hp with rfl | rfl | rfl | rfl
  · exact ⟨h.2.1 _ (by simp), h1⟩
  · exact ⟨h.2.1 _ (by simp), h2⟩
  · exact ⟨h.2.1 _ (by simp), h3⟩
  · exact ⟨h.2.1 _ (by simp), h4⟩
theorem PQe.at_ {w0 wr : World} {rows : List (Value × List Sp)} {bl : List (Nat × TypeId × Array Value)} (h : PQe w0 wr rows bl) (g : Nat) (t : TypeId) (cs : Array Value) (hm : (g, t, cs) ∈ bl) : Blk wr g t cs := h.2.2 _ hm
theorem epl_cells {w : World} {g : Nat} {r : Nat → Int} (h : Blk w g 25 (stA r)) : w.cell? ⟨g, 5, none⟩ = some (.int .u16 (r 5)) ∧ w.cell? ⟨g, 4, none⟩ = some (.int .u8 (r 4)) := ⟨h.cell 5, h.cell 4⟩
theorem flP_plan (k : Nat) (r : Nat → Int) (d2 : Int) (v1 v2 v3 v4 : Value) : flP [(v1, rdSp 2 [r 5, r 5]), (v2, puL k r [r 5 / 256, r 5 % 256, d2] 3), (v3, rdSp 7 [goAt k, goAt k + 1]), (v4, rdSp 2 [r 5])] = plL k r d2 := rfl
theorem eplan_no (k : Nat) (r : Nat → Int) (hk : ¬ (1 ≤ k ∧ k ≤ 5)) (w : World) : Calls Tryz.prog 15 #[.int .u8 (k : Int), .agg (stA r)] w fun e w' => e = .returned (.slice none 0 0) ∧ Below w.heap.size w w' := by
  have hgo := fun W => goes_no (k := (k : Int)) W (by omega)
  have HB0 : Hid (Below w.heap.size w (w.alloc (.cells (stA r) 25))) := Lib.hid ((Below.refl _ w).alloc (Nat.le_refl _) _)
  obtain ⟨w1, hw1⟩ : ∃ w1, w.alloc (.cells (stA r) 25) = w1 := ⟨_, rfl⟩
  rw [hw1] at HB0
  have HW1 := Lib.hid hw1
  clear hw1
  go_enter Tryz.func15, Tryz.ntmps15
  go_upto_region 1 with fail
  rw [HW1.out]
  clear HW1
  go_wp2_with (go_at_call 45; refine (hgo _).mono ?_; rintro e w2 ⟨rfl, rfl⟩)
  go_ret
  exact ⟨rfl, HB0.out⟩
theorem eplan_yes (k : Nat) (r : Nat → Int) (hr : StOk r) (hk : 1 ≤ k ∧ k ≤ 5) (w : World) :
    Calls Tryz.prog 15 #[.int .u8 (k : Int), .agg (stA r)] w fun e w' => ∃ v, e = .returned v ∧ w'.ownsRow w.heap.size 46 4 v 8 (spL (plL k r (flS (flS (r 4) 32 false) 16 false))) ∧ Below w.heap.size w w' := by
  have hgo := fun W => goes_yes k W hk
  have q5 : 0 ≤ r 5 ∧ r 5 ≤ 65535 := hr 5 (by omega)
  obtain ⟨d2, hd2⟩ : ∃ d2, flS (flS (r 4) 32 false) 16 false = d2 := ⟨_, rfl⟩
  have hps := fun W => fpushed_any (r 4) false W
  rw [hd2] at hps ⊢
  obtain ⟨A, hA⟩ : ∃ A, goAt k = A := ⟨_, rfl⟩
  have hA1 : 65536 - 2 * (k : Int) = A := hA
  rw [hA1] at hgo
  have A0 : 0 ≤ A := by omega
  have A1 : A + 1 ≤ 65535 := by omega
  have HEA : Hid (IntKind.u16.wrap (A + 1) = A + 1) := Lib.hid (by simp [IntKind.wrap, IntKind.signed, IntKind.bits]; omega)
  have u1 : IntKind.u8.wrap (r 5 / 256) = r 5 / 256 := by simp [IntKind.wrap, IntKind.signed, IntKind.bits]; omega
  have u2 : IntKind.u8.wrap (r 5) = r 5 % 256 := by simp [IntKind.wrap, IntKind.signed, IntKind.bits]
  have hhi := fun W => hi_any (r 5) W
  have hlo := fun W => lo_any (r 5) W
  rw [u1] at hhi
  rw [u2] at hlo
  have HPL := Lib.hid (fun v1 v2 v3 v4 => flP_plan k r d2 v1 v2 v3 v4)
  obtain ⟨D0, hD0⟩ : ∃ D0, r 5 / 256 = D0 := ⟨_, rfl⟩
  obtain ⟨D1, hD1⟩ : ∃ D1, r 5 % 256 = D1 := ⟨_, rfl⟩
  rw [hD0] at hhi
  rw [hD1] at hlo
  rw [hD0, hD1, hA] at HPL
  have HR := Lib.hid hr
  have hk2 : k < 256 := by omega
  have HK := Lib.hid hk2
  have SX0 : Hid (PQe w (w.alloc (.cells (stA r) 25)) [] [(w.heap.size, 25, stA r)]) := Lib.hid (PQe.make ⟨Below.refl _ w, fun _ h => (List.not_mem_nil h).elim, fun _ h => (List.not_mem_nil h).elim⟩ _ _)
  obtain ⟨g, hg⟩ : ∃ g, w.heap.size = g := ⟨_, rfl⟩
  obtain ⟨w1, hw1⟩ : ∃ w1, w.alloc (.cells (stA r) 25) = w1 := ⟨_, rfl⟩
  have SX : Hid (PQe w w1 [] [(g, 25, stA r)]) := Lib.hid (by rw [← hw1, ← hg]; exact SX0.out)
  have HW1 := Lib.hid hw1
  have HG := Lib.hid hg
  clear hw1 hg hA hA1 hr hk hk2 SX0 hd2 q5 hD0 hD1 u1 u2
  go_enter Tryz.func15, Tryz.ntmps15
  go_upto_region 1 with fail
  rw [HW1.out, HG.out]
  clear HW1
  go_upto_region 4 with (go_at_call 45; refine (hgo _).mono ?_; rintro e w2 ⟨rfl, rfl⟩)
  have HG2 : Hid (w.heap.size ≤ g) := Lib.hid (by rw [HG.out]; exact Nat.le_refl _)
  clear HG hgo
  refine rg_begin (S := fun w' => Blk w' g 25 (stA r)) 7 #[false, false, false, false, false, false, false] (by kernel_rfl) (by kernel_rfl) (by kernel_rfl) ?_ (fun hHeld => ?_)
  · exact SX.out.drew.at_ g 25 (stA r) (by repeat (first | (with_reducible exact List.mem_cons_self) | apply List.mem_cons_of_mem))
  refine rg_take (i := 0) (d := some 16) (l := #[true, false, false, false, false, false, false]) (fuel := 6) (v := .agg (stA r)) rfl (by kernel_rfl) (by kernel_rfl) (by kernel_rfl) (by kernel_rfl) (by kernel_rfl) (fun _ _ _ h => h) (by kernel_rfl) ?_ (by assumption) ?_
  · (intro wS hSw; (try dsimp only at hSw); exact exec_load_row 25 (.tmp 3) rfl g rfl 25 (stA r) (0, 0) _ hSw Tryz.underlying25 rfl (by kernel_rfl))
  try simp only [Act.put, List.setIfInBounds_toArray, List.set_cons_zero, List.set_cons_succ]
  refine rg_take (i := 2) (d := some 18) (l := #[true, false, true, false, false, false, false]) (fuel := 5) (v := ?_) rfl (by kernel_rfl) (by kernel_rfl) (by kernel_rfl) (by kernel_rfl) (by kernel_rfl) (fun _ _ _ h => h) (by kernel_rfl) ?_ (by assumption) ?_
  rotate_left 1
  · (intro wS hSw; (try dsimp only at hSw); go_simp; try with_reducible rfl)
  try simp only [Act.put, List.setIfInBounds_toArray, List.set_cons_zero, List.set_cons_succ]
  refine rg_take (i := 3) (d := some 19) (l := #[true, false, true, true, false, false, false]) (fuel := 4) (v := .agg (stA r)) rfl (by kernel_rfl) (by kernel_rfl) (by kernel_rfl) (by kernel_rfl) (by kernel_rfl) (fun _ _ _ h => h) (by kernel_rfl) ?_ (by assumption) ?_
  · (intro wS hSw; (try dsimp only at hSw); exact exec_load_row 25 (.tmp 3) rfl g rfl 25 (stA r) (0, 0) _ hSw Tryz.underlying25 rfl (by kernel_rfl))
  try simp only [Act.put, List.setIfInBounds_toArray, List.set_cons_zero, List.set_cons_succ]
  refine rg_next (i := 1) (l := #[true, true, true, true, false, false, false]) (fuel := 3) (by kernel_rfl) rfl (by kernel_rfl) (by kernel_rfl) (fun K hK => ?_)
  go_simp
  go_at_call 46
  refine (eidling_any r _).mono ?_
  rintro e w3 ⟨gi, rfl, hgi, ki, hbi⟩
  have SX3 := Lib.hid (SX.out.drew.block hbi ki)
  have HGI : Hid (w.heap.size ≤ gi) := Lib.hid (Nat.le_trans SX.out.drew.1.size hgi)
  have hgi2 : w3.heap.size > gi := ki.lt
  clear hbi ki hgi
  first | (refine hK.out _ _ ?_ (fun hHeld => ?_)) | (go_wp2_with fail; refine hK.out _ _ ?_ (fun hHeld => ?_))
  · (try dsimp only); exact SX3.out.at_ g 25 (stA r) (by repeat (first | (with_reducible exact List.mem_cons_self) | apply List.mem_cons_of_mem))
  clear hK K
  try simp only [Act.put, List.setIfInBounds_toArray, List.set_cons_zero, List.set_cons_succ]
  refine rg_next (i := 4) (l := #[true, true, true, true, true, false, false]) (fuel := 2) (by kernel_rfl) rfl (by kernel_rfl) (by kernel_rfl) (fun K hK => ?_)
  go_simp
  go_at_call 47
  refine (epushing_any (k : Int) r _).mono ?_
  rintro e w4 ⟨gp, q, rfl, hq, hqg, kgp, kq, hbp⟩
  have SX4 := Lib.hid (PQe.block (SX3.out.block hbp kgp) (Below.refl _ _) kq)
  have HGP : Hid (w.heap.size ≤ gp ∧ gi ≠ gp ∧ q ≠ gp ∧ g ≠ gp) := Lib.hid ⟨by have := SX3.out.1.size; omega, by omega, by omega, by have := (SX3.out.at_ g 25 (stA r) (by repeat (first | (with_reducible exact List.mem_cons_self) | apply List.mem_cons_of_mem))).lt; omega⟩
  clear hbp kgp kq hq hqg
  first | (refine hK.out _ _ ?_ (fun hHeld => ?_)) | (go_wp2_with fail; refine hK.out _ _ ?_ (fun hHeld => ?_))
  · (try dsimp only); exact SX4.out.at_ g 25 (stA r) (by repeat (first | (with_reducible exact List.mem_cons_self) | apply List.mem_cons_of_mem))
  clear hK K
  try simp only [Act.put, List.setIfInBounds_toArray, List.set_cons_zero, List.set_cons_succ]
  refine rg_take (i := 5) (d := some 7) (l := #[true, true, true, true, true, true, false]) (fuel := 1) (v := ?_) rfl (by kernel_rfl) (by kernel_rfl) (by kernel_rfl) (by kernel_rfl) (by kernel_rfl) (fun _ _ _ h => h) (by kernel_rfl) ?_ (by assumption) ?_
  rotate_left 1
  · (intro wS hSw; (try dsimp only at hSw); go_simp; try with_reducible rfl)
  try simp only [Act.put, List.setIfInBounds_toArray, List.set_cons_zero, List.set_cons_succ]
  refine rg_take (i := 6) (d := some 8) (l := #[true, true, true, true, true, true, true]) (fuel := 0) (v := ?_) rfl (by kernel_rfl) (by kernel_rfl) (by kernel_rfl) (by kernel_rfl) (by kernel_rfl) (fun _ _ _ h => h) (by kernel_rfl) ?_ (by assumption) ?_
  rotate_left 1
  · (intro wS hSw; (try dsimp only at hSw); go_simp; try with_reducible rfl)
  try simp only [Act.put, List.setIfInBounds_toArray, List.set_cons_zero, List.set_cons_succ]
  refine wpAnyH_done (by kernel_rfl) ?_ _
  clear SX SX3 hgi2
  go_upto_region 5 with fail
  have sx : Hid (PQe w w4.drew [] [(q, 5, #[.int .u8 (k : Int)]), (gp, 25, stA r), (gi, 25, stA r), (g, 25, stA r)]) := Lib.hid SX4.out.drew
  obtain ⟨s5, s4⟩ := epl_cells (sx.out.at_ g 25 (stA r) (by repeat (first | (with_reducible exact List.mem_cons_self) | apply List.mem_cons_of_mem)))
  clear SX4
  refine rg_begin (S := fun w' => w'.cell? ⟨g, 5, none⟩ = some (.int .u16 (r 5)) ∧ w'.cell? ⟨g, 4, none⟩ = some (.int .u8 (r 4))) 24 #[false, false, false, false, false, false, false, false, false, false, false, false, false, false, false, false, false, false, false, false, false, false, false, false] (by kernel_rfl) (by kernel_rfl) (by kernel_rfl) ?_ (fun hHeld => ?_)
  · exact epl_cells (sx.out.at_ g 25 (stA r) (by repeat (first | (with_reducible exact List.mem_cons_self) | apply List.mem_cons_of_mem)))
  clear s5 s4
  generalize w4.drew = wD at sx hHeld ⊢
  refine rg_take (i := 0) (d := some 21) (l := #[true, false, false, false, false, false, false, false, false, false, false, false, false, false, false, false, false, false, false, false, false, false, false, false]) (fuel := 23) (v := ?_) rfl (by kernel_rfl) (by kernel_rfl) (by kernel_rfl) (by kernel_rfl) (by kernel_rfl) (fun _ _ _ h => h) (by kernel_rfl) ?_ (by assumption) ?_
  rotate_left 1
  · (intro wS hSw; (try dsimp only at hSw); go_simp; try with_reducible rfl)
  try simp only [Act.put, List.setIfInBounds_toArray, List.set_cons_zero, List.set_cons_succ]
  refine rg_take (i := 2) (d := some 23) (l := #[true, false, true, false, false, false, false, false, false, false, false, false, false, false, false, false, false, false, false, false, false, false, false, false]) (fuel := 22) (v := ?_) rfl (by kernel_rfl) (by kernel_rfl) (by kernel_rfl) (by kernel_rfl) (by kernel_rfl) (fun _ _ _ h => h) (by kernel_rfl) ?_ (by assumption) ?_
  rotate_left 1
  · (intro wS hSw; (try dsimp only at hSw); go_simp; try with_reducible rfl)
  try simp only [Act.put, List.setIfInBounds_toArray, List.set_cons_zero, List.set_cons_succ]
  refine rg_take (i := 3) (d := some 24) (l := #[true, false, true, true, false, false, false, false, false, false, false, false, false, false, false, false, false, false, false, false, false, false, false, false]) (fuel := 21) (v := ?_) rfl (by kernel_rfl) (by kernel_rfl) (by kernel_rfl) (by kernel_rfl) (by kernel_rfl) (fun _ _ _ h => h) (by kernel_rfl) ?_ (by assumption) ?_
  rotate_left 1
  · (intro wS hSw; (try dsimp only at hSw); go_simp; try with_reducible rfl)
  try simp only [Act.put, List.setIfInBounds_toArray, List.set_cons_zero, List.set_cons_succ]
  refine rg_take (i := 4) (d := some 25) (l := #[true, false, true, true, true, false, false, false, false, false, false, false, false, false, false, false, false, false, false, false, false, false, false, false]) (fuel := 20) (v := ?_) rfl (by kernel_rfl) (by kernel_rfl) (by kernel_rfl) (by kernel_rfl) (by kernel_rfl) (fun _ _ _ h => h) (by kernel_rfl) ?_ (by assumption) ?_
  rotate_left 1
  · (intro wS hSw; (try dsimp only at hSw); go_simp; try with_reducible rfl)
  try simp only [Act.put, List.setIfInBounds_toArray, List.set_cons_zero, List.set_cons_succ]
  refine rg_take (i := 6) (d := some 27) (l := #[true, false, true, true, true, false, true, false, false, false, false, false, false, false, false, false, false, false, false, false, false, false, false, false]) (fuel := 19) (v := ?_) rfl (by kernel_rfl) (by kernel_rfl) (by kernel_rfl) (by kernel_rfl) (by kernel_rfl) (fun _ _ _ h => h) (by kernel_rfl) ?_ (by assumption) ?_
  rotate_left 1
  · (intro wS hSw; (try dsimp only at hSw); go_simp; try with_reducible rfl)
  try simp only [Act.put, List.setIfInBounds_toArray, List.set_cons_zero, List.set_cons_succ]
  refine rg_take (i := 7) (d := some 28) (l := #[true, false, true, true, true, false, true, true, false, false, false, false, false, false, false, false, false, false, false, false, false, false, false, false]) (fuel := 18) (v := ?_) rfl (by kernel_rfl) (by kernel_rfl) (by kernel_rfl) (by kernel_rfl) (by kernel_rfl) (fun _ _ _ h => h) (by kernel_rfl) ?_ (by assumption) ?_
  rotate_left 1
  · (intro wS hSw; (try dsimp only at hSw); go_simp; try with_reducible rfl)
  try simp only [Act.put, List.setIfInBounds_toArray, List.set_cons_zero, List.set_cons_succ]
  refine rg_take (i := 9) (d := some 30) (l := #[true, false, true, true, true, false, true, true, false, true, false, false, false, false, false, false, false, false, false, false, false, false, false, false]) (fuel := 17) (v := ?_) rfl (by kernel_rfl) (by kernel_rfl) (by kernel_rfl) (by kernel_rfl) (by kernel_rfl) (fun _ _ _ h => h) (by kernel_rfl) ?_ (by assumption) ?_
  rotate_left 1
  · (intro wS hSw; (try dsimp only at hSw); go_simp; try with_reducible rfl)
  try simp only [Act.put, List.setIfInBounds_toArray, List.set_cons_zero, List.set_cons_succ]
  refine rg_take (i := 10) (d := some 31) (l := #[true, false, true, true, true, false, true, true, false, true, true, false, false, false, false, false, false, false, false, false, false, false, false, false]) (fuel := 16) (v := ?_) rfl (by kernel_rfl) (by kernel_rfl) (by kernel_rfl) (by kernel_rfl) (by kernel_rfl) (fun _ _ _ h => h) (by kernel_rfl) ?_ (by assumption) ?_
  rotate_left 1
  · (intro wS hSw; (try dsimp only at hSw); go_simp; try with_reducible rfl)
  try simp only [Act.put, List.setIfInBounds_toArray, List.set_cons_zero, List.set_cons_succ]
  refine rg_take (i := 14) (d := some 35) (l := #[true, false, true, true, true, false, true, true, false, true, true, false, false, false, true, false, false, false, false, false, false, false, false, false]) (fuel := 15) (v := ?_) rfl (by kernel_rfl) (by kernel_rfl) (by kernel_rfl) (by kernel_rfl) (by kernel_rfl) (fun _ _ _ h => h) (by kernel_rfl) ?_ (by assumption) ?_
  rotate_left 1
  · (intro wS hSw; (try dsimp only at hSw); go_simp; try with_reducible rfl)
  try simp only [Act.put, List.setIfInBounds_toArray, List.set_cons_zero, List.set_cons_succ]
  refine rg_take (i := 15) (d := some 36) (l := #[true, false, true, true, true, false, true, true, false, true, true, false, false, false, true, true, false, false, false, false, false, false, false, false]) (fuel := 14) (v := ?_) rfl (by kernel_rfl) (by kernel_rfl) (by kernel_rfl) (by kernel_rfl) (by kernel_rfl) (fun _ _ _ h => h) (by kernel_rfl) ?_ (by assumption) ?_
  rotate_left 1
  · (intro wS hSw; (try dsimp only at hSw); go_simp; try with_reducible rfl)
  try simp only [Act.put, List.setIfInBounds_toArray, List.set_cons_zero, List.set_cons_succ]
  refine rg_take (i := 16) (d := some 37) (l := #[true, false, true, true, true, false, true, true, false, true, true, false, false, false, true, true, true, false, false, false, false, false, false, false]) (fuel := 13) (v := ?_) rfl (by kernel_rfl) (by kernel_rfl) (by kernel_rfl) (by kernel_rfl) (by kernel_rfl) (fun _ _ _ h => h) (by kernel_rfl) ?_ (by assumption) ?_
  rotate_left 1
  · (intro wS hSw; (try dsimp only at hSw); go_simp; try with_reducible rfl)
  try simp only [Act.put, List.setIfInBounds_toArray, List.set_cons_zero, List.set_cons_succ]
  refine rg_take (i := 19) (d := some 40) (l := #[true, false, true, true, true, false, true, true, false, true, true, false, false, false, true, true, true, false, false, true, false, false, false, false]) (fuel := 12) (v := ?_) rfl (by kernel_rfl) (by kernel_rfl) (by kernel_rfl) (by kernel_rfl) (by kernel_rfl) (fun _ _ _ h => h) (by kernel_rfl) ?_ (by assumption) ?_
  rotate_left 1
  · (intro wS hSw; (try dsimp only at hSw); go_simp; try with_reducible rfl)
  try simp only [Act.put, List.setIfInBounds_toArray, List.set_cons_zero, List.set_cons_succ]
  rw [HEA.out]
  refine rg_of (rs := [1, 17]) (fuel := 11) (by kernel_rfl) rfl ?_
  refine rg_step (i := 1) (l := #[true, true, true, true, true, false, true, true, false, true, true, false, false, false, true, true, true, false, false, true, false, false, false, false]) rfl (by kernel_rfl) (by kernel_rfl) ?_ ?_
  · intro K hK
    go_simp
    go_at_call 84
    refine (eidle_2 gi r _ (sx.out.at_ gi 25 (stA r) (by repeat (first | (with_reducible exact List.mem_cons_self) | apply List.mem_cons_of_mem)))).mono ?_
    rintro e w11 ⟨v1, rfl, own, hb⟩
    obtain ⟨b1, c1, rfl, z8, z9⟩ := own_form own (by omega)
    clear z8 z9
    have sx2 := Lib.hid (sx.out.row hb own rfl)
    clear sx
    have sx := sx2
    clear sx2
    clear own hb
    first | (refine hK.out _ _ ?_ (fun hHeld => ?_)) | (go_wp2_with fail; refine hK.out _ _ ?_ (fun hHeld => ?_))
    · (try dsimp only); exact epl_cells (sx.out.at_ g 25 (stA r) (by repeat (first | (with_reducible exact List.mem_cons_self) | apply List.mem_cons_of_mem)))
    clear hK K
    try simp only [Act.put, List.setIfInBounds_toArray, List.set_cons_zero, List.set_cons_succ]
    refine rg_of (rs := [5, 17]) (fuel := 10) (by kernel_rfl) rfl ?_
    refine rg_step (i := 5) (l := #[true, true, true, true, true, true, true, true, false, true, true, false, false, false, true, true, true, false, false, true, false, false, false, false]) rfl (by kernel_rfl) (by kernel_rfl) ?_ ?_
    · intro K hK
      go_simp
      go_at_call 49
      refine (hhi _).mono ?_
      rintro e wz ⟨rfl, rfl⟩
      first | (refine hK.out _ _ ?_ (fun hHeld => ?_)) | (go_wp2_with fail; refine hK.out _ _ ?_ (fun hHeld => ?_))
      · (try dsimp only); exact epl_cells (sx.out.at_ g 25 (stA r) (by repeat (first | (with_reducible exact List.mem_cons_self) | apply List.mem_cons_of_mem)))
      clear hK K
      try simp only [Act.put, List.setIfInBounds_toArray, List.set_cons_zero, List.set_cons_succ]
      refine rg_of (rs := [8, 17]) (fuel := 9) (by kernel_rfl) rfl ?_
      refine rg_step (i := 8) (l := #[true, true, true, true, true, true, true, true, true, true, true, false, false, false, true, true, true, false, false, true, false, false, false, false]) rfl (by kernel_rfl) (by kernel_rfl) ?_ ?_
      · intro K hK
        go_simp
        go_at_call 50
        refine (hlo _).mono ?_
        rintro e wz ⟨rfl, rfl⟩
        first | (refine hK.out _ _ ?_ (fun hHeld => ?_)) | (go_wp2_with fail; refine hK.out _ _ ?_ (fun hHeld => ?_))
        · (try dsimp only); exact epl_cells (sx.out.at_ g 25 (stA r) (by repeat (first | (with_reducible exact List.mem_cons_self) | apply List.mem_cons_of_mem)))
        clear hK K
        try simp only [Act.put, List.setIfInBounds_toArray, List.set_cons_zero, List.set_cons_succ]
        refine rg_of (rs := [11, 17]) (fuel := 8) (by kernel_rfl) rfl ?_
        refine rg_step (i := 11) (l := #[true, true, true, true, true, true, true, true, true, true, true, true, false, false, true, true, true, false, false, true, false, false, false, false]) rfl (by kernel_rfl) (by kernel_rfl) ?_ ?_
        · intro K hK
          go_simp
          go_at_call 51
          refine (hps _).mono ?_
          rintro e wz ⟨rfl, rfl⟩
          first | (refine hK.out _ _ ?_ (fun hHeld => ?_)) | (go_wp2_with fail; refine hK.out _ _ ?_ (fun hHeld => ?_))
          · (try dsimp only); exact epl_cells (sx.out.at_ g 25 (stA r) (by repeat (first | (with_reducible exact List.mem_cons_self) | apply List.mem_cons_of_mem)))
          clear hK K
          try simp only [Act.put, List.setIfInBounds_toArray, List.set_cons_zero, List.set_cons_succ]
          refine rg_of (rs := [12, 17]) (fuel := 7) (by kernel_rfl) rfl ?_
          refine rg_step (i := 12) (l := #[true, true, true, true, true, true, true, true, true, true, true, true, true, false, true, true, true, false, false, true, false, false, false, false]) rfl (by kernel_rfl) (by kernel_rfl) ?_ ?_
          · intro K hK
            go_simp
            skip
            first | (refine hK.out _ _ ?_ (fun hHeld => ?_)) | (go_wp2_with fail; refine hK.out _ _ ?_ (fun hHeld => ?_))
            · (try dsimp only); exact epl_cells ((sx.out.make 5 #[.int .u8 D0, .int .u8 D1, .int .u8 d2]).at_ g 25 (stA r) (by repeat (first | (with_reducible exact List.mem_cons_self) | apply List.mem_cons_of_mem)))
            clear hK K
            try simp only [Act.put, List.setIfInBounds_toArray, List.set_cons_zero, List.set_cons_succ]
            have sx2 := Lib.hid (sx.out.make 5 #[.int .u8 D0, .int .u8 D1, .int .u8 d2])
            clear sx
            obtain ⟨x12, hx12⟩ : ∃ x12, w11.heap.size = x12 := ⟨_, rfl⟩
            generalize World.alloc _ _ = w12 at sx2 hHeld ⊢
            first | rw [hx12] at sx2 ⊢ | (have e9 : w11.heap.size = x12 := hx12; simp only [World.drew] at e9 sx2 ⊢; rw [e9] at sx2 ⊢)
            have sx := sx2
            clear sx2 hx12
            refine rg_of (rs := [13, 17]) (fuel := 6) (by kernel_rfl) rfl ?_
            refine rg_step (i := 13) (l := #[true, true, true, true, true, true, true, true, true, true, true, true, true, true, true, true, true, false, false, true, false, false, false, false]) rfl (by kernel_rfl) (by kernel_rfl) ?_ ?_
            · intro K hK
              go_simp
              go_at_call 86
              refine (epush_any k HK.out gp q x12 3 r HR.out [D0, D1, d2] rfl _ (sx.out.at_ gp 25 (stA r) (by repeat (first | (with_reducible exact List.mem_cons_self) | apply List.mem_cons_of_mem))) (sx.out.at_ q 5 (#[.int .u8 (k : Int)]) (by repeat (first | (with_reducible exact List.mem_cons_self) | apply List.mem_cons_of_mem))) (sx.out.at_ x12 5 (#[.int .u8 D0, .int .u8 D1, .int .u8 d2]) (by repeat (first | (with_reducible exact List.mem_cons_self) | apply List.mem_cons_of_mem)))).mono ?_
              rintro e w13 ⟨v2, rfl, own, kp⟩
              obtain ⟨b2, c2, rfl, z8, z9⟩ := own_form own (by omega)
              clear z8 z9
              have sx2 : Hid (PQe w w13 _ [(q, 5, #[.int .u8 (k : Int)]), (gi, 25, stA r), (g, 25, stA r)]) := Lib.hid (sx.out.pushed (sx.out.at_ gp 25 (stA r) (by repeat (first | (with_reducible exact List.mem_cons_self) | apply List.mem_cons_of_mem))) HGP.out.1 kp own rfl (by intro x hx; simp only [List.mem_cons, List.not_mem_nil, or_false] at hx; rcases hx with rfl | rfl | rfl <;> (first | exact ⟨by repeat (first | (with_reducible exact List.mem_cons_self) | apply List.mem_cons_of_mem), HGP.out.2.2.1⟩ | exact ⟨by repeat (first | (with_reducible exact List.mem_cons_self) | apply List.mem_cons_of_mem), HGP.out.2.1⟩ | exact ⟨by repeat (first | (with_reducible exact List.mem_cons_self) | apply List.mem_cons_of_mem), HGP.out.2.2.2⟩)))
              clear sx
              have sx := sx2
              clear sx2
              clear own kp
              first | (refine hK.out _ _ ?_ (fun hHeld => ?_)) | (go_wp2_with fail; refine hK.out _ _ ?_ (fun hHeld => ?_))
              · (try dsimp only); exact epl_cells (sx.out.at_ g 25 (stA r) (by repeat (first | (with_reducible exact List.mem_cons_self) | apply List.mem_cons_of_mem)))
              clear hK K
              try simp only [Act.put, List.setIfInBounds_toArray, List.set_cons_zero, List.set_cons_succ]
              refine rg_next (i := 17) (l := #[true, true, true, true, true, true, true, true, true, true, true, true, true, true, true, true, true, true, false, true, false, false, false, false]) (fuel := 5) (by kernel_rfl) rfl (by kernel_rfl) (by kernel_rfl) (fun K hK => ?_)
              go_simp
              skip
              first | (refine hK.out _ _ ?_ (fun hHeld => ?_)) | (go_wp2_with fail; refine hK.out _ _ ?_ (fun hHeld => ?_))
              · (try dsimp only); exact epl_cells ((sx.out.make 22 #[.int .u16 A, .int .u16 (A + 1)]).at_ g 25 (stA r) (by repeat (first | (with_reducible exact List.mem_cons_self) | apply List.mem_cons_of_mem)))
              clear hK K
              try simp only [Act.put, List.setIfInBounds_toArray, List.set_cons_zero, List.set_cons_succ]
              have sx2 := Lib.hid (sx.out.make 22 #[.int .u16 A, .int .u16 (A + 1)])
              clear sx
              obtain ⟨x17, hx17⟩ : ∃ x17, w13.heap.size = x17 := ⟨_, rfl⟩
              generalize World.alloc _ _ = w14 at sx2 hHeld ⊢
              first | rw [hx17] at sx2 ⊢ | (have e9 : w13.heap.size = x17 := hx17; simp only [World.drew] at e9 sx2 ⊢; rw [e9] at sx2 ⊢)
              have sx := sx2
              clear sx2 hx17
              refine rg_next (i := 18) (l := #[true, true, true, true, true, true, true, true, true, true, true, true, true, true, true, true, true, true, true, true, false, false, false, false]) (fuel := 4) (by kernel_rfl) rfl (by kernel_rfl) (by kernel_rfl) (fun K hK => ?_)
              go_simp
              go_at_call 52
              refine (ereading_any 7 x17 2 2 [A, A + 1] _ rfl (by omega) (sx.out.at_ x17 22 (#[.int .u16 A, .int .u16 (A + 1)]) (by repeat (first | (with_reducible exact List.mem_cons_self) | apply List.mem_cons_of_mem)))).mono ?_
              rintro e w15 ⟨v3, rfl, own, hb⟩
              obtain ⟨b3, c3, rfl, z8, z9⟩ := own_form own (by omega)
              clear z8 z9
              have sx2 := Lib.hid (sx.out.row hb own rfl)
              clear sx
              have sx := sx2
              clear sx2
              clear own hb
              first | (refine hK.out _ _ ?_ (fun hHeld => ?_)) | (go_wp2_with fail; refine hK.out _ _ ?_ (fun hHeld => ?_))
              · (try dsimp only); exact epl_cells (sx.out.at_ g 25 (stA r) (by repeat (first | (with_reducible exact List.mem_cons_self) | apply List.mem_cons_of_mem)))
              clear hK K
              try simp only [Act.put, List.setIfInBounds_toArray, List.set_cons_zero, List.set_cons_succ]
              refine rg_next (i := 20) (l := #[true, true, true, true, true, true, true, true, true, true, true, true, true, true, true, true, true, true, true, true, true, false, false, false]) (fuel := 3) (by kernel_rfl) rfl (by kernel_rfl) (by kernel_rfl) (fun K hK => ?_)
              go_simp
              go_at_call 84
              refine (eidle_1 gi r _ (sx.out.at_ gi 25 (stA r) (by repeat (first | (with_reducible exact List.mem_cons_self) | apply List.mem_cons_of_mem)))).mono ?_
              rintro e w16 ⟨v4, rfl, own, hb⟩
              obtain ⟨b4, c4, rfl, z8, z9⟩ := own_form own (by omega)
              clear z8 z9
              have sx2 := Lib.hid (sx.out.row hb own rfl)
              clear sx
              have sx := sx2
              clear sx2
              clear own hb
              first | (refine hK.out _ _ ?_ (fun hHeld => ?_)) | (go_wp2_with fail; refine hK.out _ _ ?_ (fun hHeld => ?_))
              · (try dsimp only); exact epl_cells (sx.out.at_ g 25 (stA r) (by repeat (first | (with_reducible exact List.mem_cons_self) | apply List.mem_cons_of_mem)))
              clear hK K
              try simp only [Act.put, List.setIfInBounds_toArray, List.set_cons_zero, List.set_cons_succ]
              refine rg_next (i := 21) (l := #[true, true, true, true, true, true, true, true, true, true, true, true, true, true, true, true, true, true, true, true, true, true, false, false]) (fuel := 2) (by kernel_rfl) rfl (by kernel_rfl) (by kernel_rfl) (fun K hK => ?_)
              go_simp
              skip
              first | (refine hK.out _ _ ?_ (fun hHeld => ?_)) | (go_wp2_with fail; refine hK.out _ _ ?_ (fun hHeld => ?_))
              · (try dsimp only); exact epl_cells ((sx.out.make 26 #[.slice (some ⟨b1, 0, none⟩) 2 c1, .slice (some ⟨b2, 0, none⟩) 3 c2, .slice (some ⟨b3, 0, none⟩) 2 c3, .slice (some ⟨b4, 0, none⟩) 1 c4]).at_ g 25 (stA r) (by repeat (first | (with_reducible exact List.mem_cons_self) | apply List.mem_cons_of_mem)))
              clear hK K
              try simp only [Act.put, List.setIfInBounds_toArray, List.set_cons_zero, List.set_cons_succ]
              have sx2 := Lib.hid (sx.out.make 26 #[.slice (some ⟨b1, 0, none⟩) 2 c1, .slice (some ⟨b2, 0, none⟩) 3 c2, .slice (some ⟨b3, 0, none⟩) 2 c3, .slice (some ⟨b4, 0, none⟩) 1 c4])
              clear sx
              obtain ⟨x21, hx21⟩ : ∃ x21, w16.heap.size = x21 := ⟨_, rfl⟩
              generalize World.alloc _ _ = w17 at sx2 hHeld ⊢
              first | rw [hx21] at sx2 ⊢ | (have e9 : w16.heap.size = x21 := hx21; simp only [World.drew] at e9 sx2 ⊢; rw [e9] at sx2 ⊢)
              have sx := sx2
              clear sx2 hx21
              refine rg_next (i := 22) (l := #[true, true, true, true, true, true, true, true, true, true, true, true, true, true, true, true, true, true, true, true, true, true, true, false]) (fuel := 1) (by kernel_rfl) rfl (by kernel_rfl) (by kernel_rfl) (fun K hK => ?_)
              go_simp
              go_at_call 48
              refine (etogether_any x21 4 4 w.heap.size [(.slice (some ⟨b1, 0, none⟩) 2 c1, rdSp 2 [r 5, r 5]), (.slice (some ⟨b2, 0, none⟩) 3 c2, puL k r [D0, D1, d2] 3), (.slice (some ⟨b3, 0, none⟩) 2 c3, rdSp 7 [A, A + 1]), (.slice (some ⟨b4, 0, none⟩) 1 c4, rdSp 2 [r 5])] rfl (by omega) (by omega) _ (sx.out.at_ x21 26 (#[.slice (some ⟨b1, 0, none⟩) 2 c1, .slice (some ⟨b2, 0, none⟩) 3 c2, .slice (some ⟨b3, 0, none⟩) 2 c3, .slice (some ⟨b4, 0, none⟩) 1 c4]) (by repeat (first | (with_reducible exact List.mem_cons_self) | apply List.mem_cons_of_mem))) (sx.out.four (by simp [rdSp]) (by rw [puL_len]; omega) (by simp [rdSp]) (by simp [rdSp])) (by rw [HPL.out]; simp [plL])).mono ?_
              rintro e w18 ⟨v5, rfl, own, hb⟩
              rw [HPL.out] at own
              have OWN := Lib.hid (own_mono2 own sx.out.1.size)
              have HB := Lib.hid (sx.out.1.trans (hb.mono sx.out.1.size))
              have sx2 := Lib.hid (sx.out.later hb)
              clear sx
              have sx := sx2
              clear sx2
              clear own hb
              first | (refine hK.out _ _ ?_ (fun hHeld => ?_)) | (go_wp2_with fail; refine hK.out _ _ ?_ (fun hHeld => ?_))
              · (try dsimp only); exact epl_cells (sx.out.at_ g 25 (stA r) (by repeat (first | (with_reducible exact List.mem_cons_self) | apply List.mem_cons_of_mem)))
              clear hK K
              try simp only [Act.put, List.setIfInBounds_toArray, List.set_cons_zero, List.set_cons_succ]
              refine rg_take (i := 23) (d := some 4) (l := #[true, true, true, true, true, true, true, true, true, true, true, true, true, true, true, true, true, true, true, true, true, true, true, true]) (fuel := 0) (v := ?_) rfl (by kernel_rfl) (by kernel_rfl) (by kernel_rfl) (by kernel_rfl) (by kernel_rfl) (fun _ _ _ h => h) (by kernel_rfl) ?_ (by assumption) ?_
              rotate_left 1
              · (intro wS hSw; (try dsimp only at hSw); go_simp; try with_reducible rfl)
              try simp only [Act.put, List.setIfInBounds_toArray, List.set_cons_zero, List.set_cons_succ]
              refine wpAnyH_done (by kernel_rfl) ?_ _
              go_wp2_with fail
              go_ret
              exact ⟨_, rfl, OWN.out, HB.out⟩
            refine rg_step (i := 17) (l := #[true, true, true, true, true, true, true, true, true, true, true, true, true, false, true, true, true, true, false, true, false, false, false, false]) rfl (by kernel_rfl) (by kernel_rfl) ?_ ?_
            · intro K hK
              go_simp
              skip
              first | (refine hK.out _ _ ?_ (fun hHeld => ?_)) | (go_wp2_with fail; refine hK.out _ _ ?_ (fun hHeld => ?_))
              · (try dsimp only); exact epl_cells ((sx.out.make 22 #[.int .u16 A, .int .u16 (A + 1)]).at_ g 25 (stA r) (by repeat (first | (with_reducible exact List.mem_cons_self) | apply List.mem_cons_of_mem)))
              clear hK K
              try simp only [Act.put, List.setIfInBounds_toArray, List.set_cons_zero, List.set_cons_succ]
              have sx2 := Lib.hid (sx.out.make 22 #[.int .u16 A, .int .u16 (A + 1)])
              clear sx
              obtain ⟨x17, hx17⟩ : ∃ x17, w12.heap.size = x17 := ⟨_, rfl⟩
              generalize World.alloc _ _ = w19 at sx2 hHeld ⊢
              first | rw [hx17] at sx2 ⊢ | (have e9 : w12.heap.size = x17 := hx17; simp only [World.drew] at e9 sx2 ⊢; rw [e9] at sx2 ⊢)
              have sx := sx2
              clear sx2 hx17
              refine rg_next (i := 13) (l := #[true, true, true, true, true, true, true, true, true, true, true, true, true, true, true, true, true, true, false, true, false, false, false, false]) (fuel := 5) (by kernel_rfl) rfl (by kernel_rfl) (by kernel_rfl) (fun K hK => ?_)
              go_simp
              go_at_call 86
              refine (epush_any k HK.out gp q x12 3 r HR.out [D0, D1, d2] rfl _ (sx.out.at_ gp 25 (stA r) (by repeat (first | (with_reducible exact List.mem_cons_self) | apply List.mem_cons_of_mem))) (sx.out.at_ q 5 (#[.int .u8 (k : Int)]) (by repeat (first | (with_reducible exact List.mem_cons_self) | apply List.mem_cons_of_mem))) (sx.out.at_ x12 5 (#[.int .u8 D0, .int .u8 D1, .int .u8 d2]) (by repeat (first | (with_reducible exact List.mem_cons_self) | apply List.mem_cons_of_mem)))).mono ?_
              rintro e w20 ⟨v2, rfl, own, kp⟩
              obtain ⟨b2, c2, rfl, z8, z9⟩ := own_form own (by omega)
              clear z8 z9
              have sx2 : Hid (PQe w w20 _ [(x17, 22, #[.int .u16 A, .int .u16 (A + 1)]), (q, 5, #[.int .u8 (k : Int)]), (gi, 25, stA r), (g, 25, stA r)]) := Lib.hid (sx.out.pushed (sx.out.at_ gp 25 (stA r) (by repeat (first | (with_reducible exact List.mem_cons_self) | apply List.mem_cons_of_mem))) HGP.out.1 kp own rfl (by intro x hx; simp only [List.mem_cons, List.not_mem_nil, or_false] at hx; rcases hx with rfl | rfl | rfl | rfl <;> (first | exact ⟨by repeat (first | (with_reducible exact List.mem_cons_self) | apply List.mem_cons_of_mem), Blk.ne_ (sx.out.at_ x17 22 (#[.int .u16 A, .int .u16 (A + 1)]) (by repeat (first | (with_reducible exact List.mem_cons_self) | apply List.mem_cons_of_mem))) (sx.out.at_ gp 25 (stA r) (by repeat (first | (with_reducible exact List.mem_cons_self) | apply List.mem_cons_of_mem))) (by decide)⟩ | exact ⟨by repeat (first | (with_reducible exact List.mem_cons_self) | apply List.mem_cons_of_mem), HGP.out.2.2.1⟩ | exact ⟨by repeat (first | (with_reducible exact List.mem_cons_self) | apply List.mem_cons_of_mem), HGP.out.2.1⟩ | exact ⟨by repeat (first | (with_reducible exact List.mem_cons_self) | apply List.mem_cons_of_mem), HGP.out.2.2.2⟩)))
              clear sx
              have sx := sx2
              clear sx2
              clear own kp
              first | (refine hK.out _ _ ?_ (fun hHeld => ?_)) | (go_wp2_with fail; refine hK.out _ _ ?_ (fun hHeld => ?_))
              · (try dsimp only); exact epl_cells (sx.out.at_ g 25 (stA r) (by repeat (first | (with_reducible exact List.mem_cons_self) | apply List.mem_cons_of_mem)))
              clear hK K
              try simp only [Act.put, List.setIfInBounds_toArray, List.set_cons_zero, List.set_cons_succ]
              refine rg_next (i := 18) (l := #[true, true, true, true, true, true, true, true, true, true, true, true, true, true, true, true, true, true, true, true, false, false, false, false]) (fuel := 4) (by kernel_rfl) rfl (by kernel_rfl) (by kernel_rfl) (fun K hK => ?_)
              go_simp
              go_at_call 52
              refine (ereading_any 7 x17 2 2 [A, A + 1] _ rfl (by omega) (sx.out.at_ x17 22 (#[.int .u16 A, .int .u16 (A + 1)]) (by repeat (first | (with_reducible exact List.mem_cons_self) | apply List.mem_cons_of_mem)))).mono ?_
              rintro e w21 ⟨v3, rfl, own, hb⟩
              obtain ⟨b3, c3, rfl, z8, z9⟩ := own_form own (by omega)
              clear z8 z9
              have sx2 := Lib.hid (sx.out.row hb own rfl)
              clear sx
              have sx := sx2
              clear sx2
              clear own hb
              first | (refine hK.out _ _ ?_ (fun hHeld => ?_)) | (go_wp2_with fail; refine hK.out _ _ ?_ (fun hHeld => ?_))
              · (try dsimp only); exact epl_cells (sx.out.at_ g 25 (stA r) (by repeat (first | (with_reducible exact List.mem_cons_self) | apply List.mem_cons_of_mem)))
              clear hK K
              try simp only [Act.put, List.setIfInBounds_toArray, List.set_cons_zero, List.set_cons_succ]
              refine rg_next (i := 20) (l := #[true, true, true, true, true, true, true, true, true, true, true, true, true, true, true, true, true, true, true, true, true, false, false, false]) (fuel := 3) (by kernel_rfl) rfl (by kernel_rfl) (by kernel_rfl) (fun K hK => ?_)
              go_simp
              go_at_call 84
              refine (eidle_1 gi r _ (sx.out.at_ gi 25 (stA r) (by repeat (first | (with_reducible exact List.mem_cons_self) | apply List.mem_cons_of_mem)))).mono ?_
              rintro e w22 ⟨v4, rfl, own, hb⟩
              obtain ⟨b4, c4, rfl, z8, z9⟩ := own_form own (by omega)
              clear z8 z9
              have sx2 := Lib.hid (sx.out.row hb own rfl)
              clear sx
              have sx := sx2
              clear sx2
              clear own hb
              first | (refine hK.out _ _ ?_ (fun hHeld => ?_)) | (go_wp2_with fail; refine hK.out _ _ ?_ (fun hHeld => ?_))
              · (try dsimp only); exact epl_cells (sx.out.at_ g 25 (stA r) (by repeat (first | (with_reducible exact List.mem_cons_self) | apply List.mem_cons_of_mem)))
              clear hK K
              try simp only [Act.put, List.setIfInBounds_toArray, List.set_cons_zero, List.set_cons_succ]
              refine rg_next (i := 21) (l := #[true, true, true, true, true, true, true, true, true, true, true, true, true, true, true, true, true, true, true, true, true, true, false, false]) (fuel := 2) (by kernel_rfl) rfl (by kernel_rfl) (by kernel_rfl) (fun K hK => ?_)
              go_simp
              skip
              first | (refine hK.out _ _ ?_ (fun hHeld => ?_)) | (go_wp2_with fail; refine hK.out _ _ ?_ (fun hHeld => ?_))
              · (try dsimp only); exact epl_cells ((sx.out.make 26 #[.slice (some ⟨b1, 0, none⟩) 2 c1, .slice (some ⟨b2, 0, none⟩) 3 c2, .slice (some ⟨b3, 0, none⟩) 2 c3, .slice (some ⟨b4, 0, none⟩) 1 c4]).at_ g 25 (stA r) (by repeat (first | (with_reducible exact List.mem_cons_self) | apply List.mem_cons_of_mem)))
              clear hK K
              try simp only [Act.put, List.setIfInBounds_toArray, List.set_cons_zero, List.set_cons_succ]
              have sx2 := Lib.hid (sx.out.make 26 #[.slice (some ⟨b1, 0, none⟩) 2 c1, .slice (some ⟨b2, 0, none⟩) 3 c2, .slice (some ⟨b3, 0, none⟩) 2 c3, .slice (some ⟨b4, 0, none⟩) 1 c4])
              clear sx
              obtain ⟨x21, hx21⟩ : ∃ x21, w22.heap.size = x21 := ⟨_, rfl⟩
              generalize World.alloc _ _ = w23 at sx2 hHeld ⊢
              first | rw [hx21] at sx2 ⊢ | (have e9 : w22.heap.size = x21 := hx21; simp only [World.drew] at e9 sx2 ⊢; rw [e9] at sx2 ⊢)
              have sx := sx2
              clear sx2 hx21
              refine rg_next (i := 22) (l := #[true, true, true, true, true, true, true, true, true, true, true, true, true, true, true, true, true, true, true, true, true, true, true, false]) (fuel := 1) (by kernel_rfl) rfl (by kernel_rfl) (by kernel_rfl) (fun K hK => ?_)
              go_simp
              go_at_call 48
              refine (etogether_any x21 4 4 w.heap.size [(.slice (some ⟨b1, 0, none⟩) 2 c1, rdSp 2 [r 5, r 5]), (.slice (some ⟨b2, 0, none⟩) 3 c2, puL k r [D0, D1, d2] 3), (.slice (some ⟨b3, 0, none⟩) 2 c3, rdSp 7 [A, A + 1]), (.slice (some ⟨b4, 0, none⟩) 1 c4, rdSp 2 [r 5])] rfl (by omega) (by omega) _ (sx.out.at_ x21 26 (#[.slice (some ⟨b1, 0, none⟩) 2 c1, .slice (some ⟨b2, 0, none⟩) 3 c2, .slice (some ⟨b3, 0, none⟩) 2 c3, .slice (some ⟨b4, 0, none⟩) 1 c4]) (by repeat (first | (with_reducible exact List.mem_cons_self) | apply List.mem_cons_of_mem))) (sx.out.four (by simp [rdSp]) (by rw [puL_len]; omega) (by simp [rdSp]) (by simp [rdSp])) (by rw [HPL.out]; simp [plL])).mono ?_
              rintro e w24 ⟨v5, rfl, own, hb⟩
              rw [HPL.out] at own
              have OWN := Lib.hid (own_mono2 own sx.out.1.size)
              have HB := Lib.hid (sx.out.1.trans (hb.mono sx.out.1.size))
              have sx2 := Lib.hid (sx.out.later hb)
              clear sx
              have sx := sx2
              clear sx2
              clear own hb
              first | (refine hK.out _ _ ?_ (fun hHeld => ?_)) | (go_wp2_with fail; refine hK.out _ _ ?_ (fun hHeld => ?_))
              · (try dsimp only); exact epl_cells (sx.out.at_ g 25 (stA r) (by repeat (first | (with_reducible exact List.mem_cons_self) | apply List.mem_cons_of_mem)))
              clear hK K
              try simp only [Act.put, List.setIfInBounds_toArray, List.set_cons_zero, List.set_cons_succ]
              refine rg_take (i := 23) (d := some 4) (l := #[true, true, true, true, true, true, true, true, true, true, true, true, true, true, true, true, true, true, true, true, true, true, true, true]) (fuel := 0) (v := ?_) rfl (by kernel_rfl) (by kernel_rfl) (by kernel_rfl) (by kernel_rfl) (by kernel_rfl) (fun _ _ _ h => h) (by kernel_rfl) ?_ (by assumption) ?_
              rotate_left 1
              · (intro wS hSw; (try dsimp only at hSw); go_simp; try with_reducible rfl)
              try simp only [Act.put, List.setIfInBounds_toArray, List.set_cons_zero, List.set_cons_succ]
              refine wpAnyH_done (by kernel_rfl) ?_ _
              go_wp2_with fail
              go_ret
              exact ⟨_, rfl, OWN.out, HB.out⟩
            exact AllReadyH.nil
          refine rg_step (i := 17) (l := #[true, true, true, true, true, true, true, true, true, true, true, true, false, false, true, true, true, true, false, true, false, false, false, false]) rfl (by kernel_rfl) (by kernel_rfl) ?_ ?_
          · intro K hK
            go_simp
            skip
            first | (refine hK.out _ _ ?_ (fun hHeld => ?_)) | (go_wp2_with fail; refine hK.out _ _ ?_ (fun hHeld => ?_))
            · (try dsimp only); exact epl_cells ((sx.out.make 22 #[.int .u16 A, .int .u16 (A + 1)]).at_ g 25 (stA r) (by repeat (first | (with_reducible exact List.mem_cons_self) | apply List.mem_cons_of_mem)))
            clear hK K
            try simp only [Act.put, List.setIfInBounds_toArray, List.set_cons_zero, List.set_cons_succ]
            have sx2 := Lib.hid (sx.out.make 22 #[.int .u16 A, .int .u16 (A + 1)])
            clear sx
            obtain ⟨x17, hx17⟩ : ∃ x17, w11.heap.size = x17 := ⟨_, rfl⟩
            generalize World.alloc _ _ = w25 at sx2 hHeld ⊢
            first | rw [hx17] at sx2 ⊢ | (have e9 : w11.heap.size = x17 := hx17; simp only [World.drew] at e9 sx2 ⊢; rw [e9] at sx2 ⊢)
            have sx := sx2
            clear sx2 hx17
            refine rg_next (i := 12) (l := #[true, true, true, true, true, true, true, true, true, true, true, true, true, false, true, true, true, true, false, true, false, false, false, false]) (fuel := 6) (by kernel_rfl) rfl (by kernel_rfl) (by kernel_rfl) (fun K hK => ?_)
            go_simp
            skip
            first | (refine hK.out _ _ ?_ (fun hHeld => ?_)) | (go_wp2_with fail; refine hK.out _ _ ?_ (fun hHeld => ?_))
            · (try dsimp only); exact epl_cells ((sx.out.make 5 #[.int .u8 D0, .int .u8 D1, .int .u8 d2]).at_ g 25 (stA r) (by repeat (first | (with_reducible exact List.mem_cons_self) | apply List.mem_cons_of_mem)))
            clear hK K
            try simp only [Act.put, List.setIfInBounds_toArray, List.set_cons_zero, List.set_cons_succ]
            have sx2 := Lib.hid (sx.out.make 5 #[.int .u8 D0, .int .u8 D1, .int .u8 d2])
            clear sx
            obtain ⟨x12, hx12⟩ : ∃ x12, w25.heap.size = x12 := ⟨_, rfl⟩
            generalize World.alloc _ _ = w26 at sx2 hHeld ⊢
            first | rw [hx12] at sx2 ⊢ | (have e9 : w25.heap.size = x12 := hx12; simp only [World.drew] at e9 sx2 ⊢; rw [e9] at sx2 ⊢)
            have sx := sx2
            clear sx2 hx12
            refine rg_next (i := 13) (l := #[true, true, true, true, true, true, true, true, true, true, true, true, true, true, true, true, true, true, false, true, false, false, false, false]) (fuel := 5) (by kernel_rfl) rfl (by kernel_rfl) (by kernel_rfl) (fun K hK => ?_)
            go_simp
            go_at_call 86
            refine (epush_any k HK.out gp q x12 3 r HR.out [D0, D1, d2] rfl _ (sx.out.at_ gp 25 (stA r) (by repeat (first | (with_reducible exact List.mem_cons_self) | apply List.mem_cons_of_mem))) (sx.out.at_ q 5 (#[.int .u8 (k : Int)]) (by repeat (first | (with_reducible exact List.mem_cons_self) | apply List.mem_cons_of_mem))) (sx.out.at_ x12 5 (#[.int .u8 D0, .int .u8 D1, .int .u8 d2]) (by repeat (first | (with_reducible exact List.mem_cons_self) | apply List.mem_cons_of_mem)))).mono ?_
            rintro e w27 ⟨v2, rfl, own, kp⟩
            obtain ⟨b2, c2, rfl, z8, z9⟩ := own_form own (by omega)
            clear z8 z9
            have sx2 : Hid (PQe w w27 _ [(x17, 22, #[.int .u16 A, .int .u16 (A + 1)]), (q, 5, #[.int .u8 (k : Int)]), (gi, 25, stA r), (g, 25, stA r)]) := Lib.hid (sx.out.pushed (sx.out.at_ gp 25 (stA r) (by repeat (first | (with_reducible exact List.mem_cons_self) | apply List.mem_cons_of_mem))) HGP.out.1 kp own rfl (by intro x hx; simp only [List.mem_cons, List.not_mem_nil, or_false] at hx; rcases hx with rfl | rfl | rfl | rfl <;> (first | exact ⟨by repeat (first | (with_reducible exact List.mem_cons_self) | apply List.mem_cons_of_mem), Blk.ne_ (sx.out.at_ x17 22 (#[.int .u16 A, .int .u16 (A + 1)]) (by repeat (first | (with_reducible exact List.mem_cons_self) | apply List.mem_cons_of_mem))) (sx.out.at_ gp 25 (stA r) (by repeat (first | (with_reducible exact List.mem_cons_self) | apply List.mem_cons_of_mem))) (by decide)⟩ | exact ⟨by repeat (first | (with_reducible exact List.mem_cons_self) | apply List.mem_cons_of_mem), HGP.out.2.2.1⟩ | exact ⟨by repeat (first | (with_reducible exact List.mem_cons_self) | apply List.mem_cons_of_mem), HGP.out.2.1⟩ | exact ⟨by repeat (first | (with_reducible exact List.mem_cons_self) | apply List.mem_cons_of_mem), HGP.out.2.2.2⟩)))
            clear sx
            have sx := sx2
            clear sx2
            clear own kp
            first | (refine hK.out _ _ ?_ (fun hHeld => ?_)) | (go_wp2_with fail; refine hK.out _ _ ?_ (fun hHeld => ?_))
            · (try dsimp only); exact epl_cells (sx.out.at_ g 25 (stA r) (by repeat (first | (with_reducible exact List.mem_cons_self) | apply List.mem_cons_of_mem)))
            clear hK K
            try simp only [Act.put, List.setIfInBounds_toArray, List.set_cons_zero, List.set_cons_succ]
            refine rg_next (i := 18) (l := #[true, true, true, true, true, true, true, true, true, true, true, true, true, true, true, true, true, true, true, true, false, false, false, false]) (fuel := 4) (by kernel_rfl) rfl (by kernel_rfl) (by kernel_rfl) (fun K hK => ?_)
            go_simp
            go_at_call 52
            refine (ereading_any 7 x17 2 2 [A, A + 1] _ rfl (by omega) (sx.out.at_ x17 22 (#[.int .u16 A, .int .u16 (A + 1)]) (by repeat (first | (with_reducible exact List.mem_cons_self) | apply List.mem_cons_of_mem)))).mono ?_
            rintro e w28 ⟨v3, rfl, own, hb⟩
            obtain ⟨b3, c3, rfl, z8, z9⟩ := own_form own (by omega)
            clear z8 z9
            have sx2 := Lib.hid (sx.out.row hb own rfl)
            clear sx
            have sx := sx2
            clear sx2
            clear own hb
            first | (refine hK.out _ _ ?_ (fun hHeld => ?_)) | (go_wp2_with fail; refine hK.out _ _ ?_ (fun hHeld => ?_))
            · (try dsimp only); exact epl_cells (sx.out.at_ g 25 (stA r) (by repeat (first | (with_reducible exact List.mem_cons_self) | apply List.mem_cons_of_mem)))
            clear hK K
            try simp only [Act.put, List.setIfInBounds_toArray, List.set_cons_zero, List.set_cons_succ]
            refine rg_next (i := 20) (l := #[true, true, true, true, true, true, true, true, true, true, true, true, true, true, true, true, true, true, true, true, true, false, false, false]) (fuel := 3) (by kernel_rfl) rfl (by kernel_rfl) (by kernel_rfl) (fun K hK => ?_)
            go_simp
            go_at_call 84
            refine (eidle_1 gi r _ (sx.out.at_ gi 25 (stA r) (by repeat (first | (with_reducible exact List.mem_cons_self) | apply List.mem_cons_of_mem)))).mono ?_
            rintro e w29 ⟨v4, rfl, own, hb⟩
            obtain ⟨b4, c4, rfl, z8, z9⟩ := own_form own (by omega)
            clear z8 z9
            have sx2 := Lib.hid (sx.out.row hb own rfl)
            clear sx
            have sx := sx2
            clear sx2
            clear own hb
            first | (refine hK.out _ _ ?_ (fun hHeld => ?_)) | (go_wp2_with fail; refine hK.out _ _ ?_ (fun hHeld => ?_))
            · (try dsimp only); exact epl_cells (sx.out.at_ g 25 (stA r) (by repeat (first | (with_reducible exact List.mem_cons_self) | apply List.mem_cons_of_mem)))
            clear hK K
            try simp only [Act.put, List.setIfInBounds_toArray, List.set_cons_zero, List.set_cons_succ]
            refine rg_next (i := 21) (l := #[true, true, true, true, true, true, true, true, true, true, true, true, true, true, true, true, true, true, true, true, true, true, false, false]) (fuel := 2) (by kernel_rfl) rfl (by kernel_rfl) (by kernel_rfl) (fun K hK => ?_)
            go_simp
            skip
            first | (refine hK.out _ _ ?_ (fun hHeld => ?_)) | (go_wp2_with fail; refine hK.out _ _ ?_ (fun hHeld => ?_))
            · (try dsimp only); exact epl_cells ((sx.out.make 26 #[.slice (some ⟨b1, 0, none⟩) 2 c1, .slice (some ⟨b2, 0, none⟩) 3 c2, .slice (some ⟨b3, 0, none⟩) 2 c3, .slice (some ⟨b4, 0, none⟩) 1 c4]).at_ g 25 (stA r) (by repeat (first | (with_reducible exact List.mem_cons_self) | apply List.mem_cons_of_mem)))
            clear hK K
            try simp only [Act.put, List.setIfInBounds_toArray, List.set_cons_zero, List.set_cons_succ]
            have sx2 := Lib.hid (sx.out.make 26 #[.slice (some ⟨b1, 0, none⟩) 2 c1, .slice (some ⟨b2, 0, none⟩) 3 c2, .slice (some ⟨b3, 0, none⟩) 2 c3, .slice (some ⟨b4, 0, none⟩) 1 c4])
            clear sx
            obtain ⟨x21, hx21⟩ : ∃ x21, w29.heap.size = x21 := ⟨_, rfl⟩
            generalize World.alloc _ _ = w30 at sx2 hHeld ⊢
            first | rw [hx21] at sx2 ⊢ | (have e9 : w29.heap.size = x21 := hx21; simp only [World.drew] at e9 sx2 ⊢; rw [e9] at sx2 ⊢)
            have sx := sx2
            clear sx2 hx21
            refine rg_next (i := 22) (l := #[true, true, true, true, true, true, true, true, true, true, true, true, true, true, true, true, true, true, true, true, true, true, true, false]) (fuel := 1) (by kernel_rfl) rfl (by kernel_rfl) (by kernel_rfl) (fun K hK => ?_)
            go_simp
            go_at_call 48
            refine (etogether_any x21 4 4 w.heap.size [(.slice (some ⟨b1, 0, none⟩) 2 c1, rdSp 2 [r 5, r 5]), (.slice (some ⟨b2, 0, none⟩) 3 c2, puL k r [D0, D1, d2] 3), (.slice (some ⟨b3, 0, none⟩) 2 c3, rdSp 7 [A, A + 1]), (.slice (some ⟨b4, 0, none⟩) 1 c4, rdSp 2 [r 5])] rfl (by omega) (by omega) _ (sx.out.at_ x21 26 (#[.slice (some ⟨b1, 0, none⟩) 2 c1, .slice (some ⟨b2, 0, none⟩) 3 c2, .slice (some ⟨b3, 0, none⟩) 2 c3, .slice (some ⟨b4, 0, none⟩) 1 c4]) (by repeat (first | (with_reducible exact List.mem_cons_self) | apply List.mem_cons_of_mem))) (sx.out.four (by simp [rdSp]) (by rw [puL_len]; omega) (by simp [rdSp]) (by simp [rdSp])) (by rw [HPL.out]; simp [plL])).mono ?_
            rintro e w31 ⟨v5, rfl, own, hb⟩
            rw [HPL.out] at own
            have OWN := Lib.hid (own_mono2 own sx.out.1.size)
            have HB := Lib.hid (sx.out.1.trans (hb.mono sx.out.1.size))
            have sx2 := Lib.hid (sx.out.later hb)
            clear sx
            have sx := sx2
            clear sx2
            clear own hb
            first | (refine hK.out _ _ ?_ (fun hHeld => ?_)) | (go_wp2_with fail; refine hK.out _ _ ?_ (fun hHeld => ?_))
            · (try dsimp only); exact epl_cells (sx.out.at_ g 25 (stA r) (by repeat (first | (with_reducible exact List.mem_cons_self) | apply List.mem_cons_of_mem)))
            clear hK K
            try simp only [Act.put, List.setIfInBounds_toArray, List.set_cons_zero, List.set_cons_succ]
            refine rg_take (i := 23) (d := some 4) (l := #[true, true, true, true, true, true, true, true, true, true, true, true, true, true, true, true, true, true, true, true, true, true, true, true]) (fuel := 0) (v := ?_) rfl (by kernel_rfl) (by kernel_rfl) (by kernel_rfl) (by kernel_rfl) (by kernel_rfl) (fun _ _ _ h => h) (by kernel_rfl) ?_ (by assumption) ?_
            rotate_left 1
            · (intro wS hSw; (try dsimp only at hSw); go_simp; try with_reducible rfl)
            try simp only [Act.put, List.setIfInBounds_toArray, List.set_cons_zero, List.set_cons_succ]
            refine wpAnyH_done (by kernel_rfl) ?_ _
            go_wp2_with fail
            go_ret
            exact ⟨_, rfl, OWN.out, HB.out⟩
          exact AllReadyH.nil
        refine rg_step (i := 17) (l := #[true, true, true, true, true, true, true, true, true, true, true, false, false, false, true, true, true, true, false, true, false, false, false, false]) rfl (by kernel_rfl) (by kernel_rfl) ?_ ?_
        · intro K hK
          go_simp
          skip
          first | (refine hK.out _ _ ?_ (fun hHeld => ?_)) | (go_wp2_with fail; refine hK.out _ _ ?_ (fun hHeld => ?_))
          · (try dsimp only); exact epl_cells ((sx.out.make 22 #[.int .u16 A, .int .u16 (A + 1)]).at_ g 25 (stA r) (by repeat (first | (with_reducible exact List.mem_cons_self) | apply List.mem_cons_of_mem)))
          clear hK K
          try simp only [Act.put, List.setIfInBounds_toArray, List.set_cons_zero, List.set_cons_succ]
          have sx2 := Lib.hid (sx.out.make 22 #[.int .u16 A, .int .u16 (A + 1)])
          clear sx
          obtain ⟨x17, hx17⟩ : ∃ x17, w11.heap.size = x17 := ⟨_, rfl⟩
          generalize World.alloc _ _ = w32 at sx2 hHeld ⊢
          first | rw [hx17] at sx2 ⊢ | (have e9 : w11.heap.size = x17 := hx17; simp only [World.drew] at e9 sx2 ⊢; rw [e9] at sx2 ⊢)
          have sx := sx2
          clear sx2 hx17
          refine rg_next (i := 11) (l := #[true, true, true, true, true, true, true, true, true, true, true, true, false, false, true, true, true, true, false, true, false, false, false, false]) (fuel := 7) (by kernel_rfl) rfl (by kernel_rfl) (by kernel_rfl) (fun K hK => ?_)
          go_simp
          go_at_call 51
          refine (hps _).mono ?_
          rintro e wz ⟨rfl, rfl⟩
          first | (refine hK.out _ _ ?_ (fun hHeld => ?_)) | (go_wp2_with fail; refine hK.out _ _ ?_ (fun hHeld => ?_))
          · (try dsimp only); exact epl_cells (sx.out.at_ g 25 (stA r) (by repeat (first | (with_reducible exact List.mem_cons_self) | apply List.mem_cons_of_mem)))
          clear hK K
          try simp only [Act.put, List.setIfInBounds_toArray, List.set_cons_zero, List.set_cons_succ]
          refine rg_next (i := 12) (l := #[true, true, true, true, true, true, true, true, true, true, true, true, true, false, true, true, true, true, false, true, false, false, false, false]) (fuel := 6) (by kernel_rfl) rfl (by kernel_rfl) (by kernel_rfl) (fun K hK => ?_)
          go_simp
          skip
          first | (refine hK.out _ _ ?_ (fun hHeld => ?_)) | (go_wp2_with fail; refine hK.out _ _ ?_ (fun hHeld => ?_))
          · (try dsimp only); exact epl_cells ((sx.out.make 5 #[.int .u8 D0, .int .u8 D1, .int .u8 d2]).at_ g 25 (stA r) (by repeat (first | (with_reducible exact List.mem_cons_self) | apply List.mem_cons_of_mem)))
          clear hK K
          try simp only [Act.put, List.setIfInBounds_toArray, List.set_cons_zero, List.set_cons_succ]
          have sx2 := Lib.hid (sx.out.make 5 #[.int .u8 D0, .int .u8 D1, .int .u8 d2])
          clear sx
          obtain ⟨x12, hx12⟩ : ∃ x12, w32.heap.size = x12 := ⟨_, rfl⟩
          generalize World.alloc _ _ = w33 at sx2 hHeld ⊢
          first | rw [hx12] at sx2 ⊢ | (have e9 : w32.heap.size = x12 := hx12; simp only [World.drew] at e9 sx2 ⊢; rw [e9] at sx2 ⊢)
          have sx := sx2
          clear sx2 hx12
          refine rg_next (i := 13) (l := #[true, true, true, true, true, true, true, true, true, true, true, true, true, true, true, true, true, true, false, true, false, false, false, false]) (fuel := 5) (by kernel_rfl) rfl (by kernel_rfl) (by kernel_rfl) (fun K hK => ?_)
          go_simp
          go_at_call 86
          refine (epush_any k HK.out gp q x12 3 r HR.out [D0, D1, d2] rfl _ (sx.out.at_ gp 25 (stA r) (by repeat (first | (with_reducible exact List.mem_cons_self) | apply List.mem_cons_of_mem))) (sx.out.at_ q 5 (#[.int .u8 (k : Int)]) (by repeat (first | (with_reducible exact List.mem_cons_self) | apply List.mem_cons_of_mem))) (sx.out.at_ x12 5 (#[.int .u8 D0, .int .u8 D1, .int .u8 d2]) (by repeat (first | (with_reducible exact List.mem_cons_self) | apply List.mem_cons_of_mem)))).mono ?_
          rintro e w34 ⟨v2, rfl, own, kp⟩
          obtain ⟨b2, c2, rfl, z8, z9⟩ := own_form own (by omega)
          clear z8 z9
          have sx2 : Hid (PQe w w34 _ [(x17, 22, #[.int .u16 A, .int .u16 (A + 1)]), (q, 5, #[.int .u8 (k : Int)]), (gi, 25, stA r), (g, 25, stA r)]) := Lib.hid (sx.out.pushed (sx.out.at_ gp 25 (stA r) (by repeat (first | (with_reducible exact List.mem_cons_self) | apply List.mem_cons_of_mem))) HGP.out.1 kp own rfl (by intro x hx; simp only [List.mem_cons, List.not_mem_nil, or_false] at hx; rcases hx with rfl | rfl | rfl | rfl <;> (first | exact ⟨by repeat (first | (with_reducible exact List.mem_cons_self) | apply List.mem_cons_of_mem), Blk.ne_ (sx.out.at_ x17 22 (#[.int .u16 A, .int .u16 (A + 1)]) (by repeat (first | (with_reducible exact List.mem_cons_self) | apply List.mem_cons_of_mem))) (sx.out.at_ gp 25 (stA r) (by repeat (first | (with_reducible exact List.mem_cons_self) | apply List.mem_cons_of_mem))) (by decide)⟩ | exact ⟨by repeat (first | (with_reducible exact List.mem_cons_self) | apply List.mem_cons_of_mem), HGP.out.2.2.1⟩ | exact ⟨by repeat (first | (with_reducible exact List.mem_cons_self) | apply List.mem_cons_of_mem), HGP.out.2.1⟩ | exact ⟨by repeat (first | (with_reducible exact List.mem_cons_self) | apply List.mem_cons_of_mem), HGP.out.2.2.2⟩)))
          clear sx
          have sx := sx2
          clear sx2
          clear own kp
          first | (refine hK.out _ _ ?_ (fun hHeld => ?_)) | (go_wp2_with fail; refine hK.out _ _ ?_ (fun hHeld => ?_))
          · (try dsimp only); exact epl_cells (sx.out.at_ g 25 (stA r) (by repeat (first | (with_reducible exact List.mem_cons_self) | apply List.mem_cons_of_mem)))
          clear hK K
          try simp only [Act.put, List.setIfInBounds_toArray, List.set_cons_zero, List.set_cons_succ]
          refine rg_next (i := 18) (l := #[true, true, true, true, true, true, true, true, true, true, true, true, true, true, true, true, true, true, true, true, false, false, false, false]) (fuel := 4) (by kernel_rfl) rfl (by kernel_rfl) (by kernel_rfl) (fun K hK => ?_)
          go_simp
          go_at_call 52
          refine (ereading_any 7 x17 2 2 [A, A + 1] _ rfl (by omega) (sx.out.at_ x17 22 (#[.int .u16 A, .int .u16 (A + 1)]) (by repeat (first | (with_reducible exact List.mem_cons_self) | apply List.mem_cons_of_mem)))).mono ?_
          rintro e w35 ⟨v3, rfl, own, hb⟩
          obtain ⟨b3, c3, rfl, z8, z9⟩ := own_form own (by omega)
          clear z8 z9
          have sx2 := Lib.hid (sx.out.row hb own rfl)
          clear sx
          have sx := sx2
          clear sx2
          clear own hb
          first | (refine hK.out _ _ ?_ (fun hHeld => ?_)) | (go_wp2_with fail; refine hK.out _ _ ?_ (fun hHeld => ?_))
          · (try dsimp only); exact epl_cells (sx.out.at_ g 25 (stA r) (by repeat (first | (with_reducible exact List.mem_cons_self) | apply List.mem_cons_of_mem)))
          clear hK K
          try simp only [Act.put, List.setIfInBounds_toArray, List.set_cons_zero, List.set_cons_succ]
          refine rg_next (i := 20) (l := #[true, true, true, true, true, true, true, true, true, true, true, true, true, true, true, true, true, true, true, true, true, false, false, false]) (fuel := 3) (by kernel_rfl) rfl (by kernel_rfl) (by kernel_rfl) (fun K hK => ?_)
          go_simp
          go_at_call 84
          refine (eidle_1 gi r _ (sx.out.at_ gi 25 (stA r) (by repeat (first | (with_reducible exact List.mem_cons_self) | apply List.mem_cons_of_mem)))).mono ?_
          rintro e w36 ⟨v4, rfl, own, hb⟩
          obtain ⟨b4, c4, rfl, z8, z9⟩ := own_form own (by omega)
          clear z8 z9
          have sx2 := Lib.hid (sx.out.row hb own rfl)
          clear sx
          have sx := sx2
          clear sx2
          clear own hb
          first | (refine hK.out _ _ ?_ (fun hHeld => ?_)) | (go_wp2_with fail; refine hK.out _ _ ?_ (fun hHeld => ?_))
          · (try dsimp only); exact epl_cells (sx.out.at_ g 25 (stA r) (by repeat (first | (with_reducible exact List.mem_cons_self) | apply List.mem_cons_of_mem)))
          clear hK K
          try simp only [Act.put, List.setIfInBounds_toArray, List.set_cons_zero, List.set_cons_succ]
          refine rg_next (i := 21) (l := #[true, true, true, true, true, true, true, true, true, true, true, true, true, true, true, true, true, true, true, true, true, true, false, false]) (fuel := 2) (by kernel_rfl) rfl (by kernel_rfl) (by kernel_rfl) (fun K hK => ?_)
          go_simp
          skip
          first | (refine hK.out _ _ ?_ (fun hHeld => ?_)) | (go_wp2_with fail; refine hK.out _ _ ?_ (fun hHeld => ?_))
          · (try dsimp only); exact epl_cells ((sx.out.make 26 #[.slice (some ⟨b1, 0, none⟩) 2 c1, .slice (some ⟨b2, 0, none⟩) 3 c2, .slice (some ⟨b3, 0, none⟩) 2 c3, .slice (some ⟨b4, 0, none⟩) 1 c4]).at_ g 25 (stA r) (by repeat (first | (with_reducible exact List.mem_cons_self) | apply List.mem_cons_of_mem)))
          clear hK K
          try simp only [Act.put, List.setIfInBounds_toArray, List.set_cons_zero, List.set_cons_succ]
          have sx2 := Lib.hid (sx.out.make 26 #[.slice (some ⟨b1, 0, none⟩) 2 c1, .slice (some ⟨b2, 0, none⟩) 3 c2, .slice (some ⟨b3, 0, none⟩) 2 c3, .slice (some ⟨b4, 0, none⟩) 1 c4])
          clear sx
          obtain ⟨x21, hx21⟩ : ∃ x21, w36.heap.size = x21 := ⟨_, rfl⟩
          generalize World.alloc _ _ = w37 at sx2 hHeld ⊢
          first | rw [hx21] at sx2 ⊢ | (have e9 : w36.heap.size = x21 := hx21; simp only [World.drew] at e9 sx2 ⊢; rw [e9] at sx2 ⊢)
          have sx := sx2
          clear sx2 hx21
          refine rg_next (i := 22) (l := #[true, true, true, true, true, true, true, true, true, true, true, true, true, true, true, true, true, true, true, true, true, true, true, false]) (fuel := 1) (by kernel_rfl) rfl (by kernel_rfl) (by kernel_rfl) (fun K hK => ?_)
          go_simp
          go_at_call 48
          refine (etogether_any x21 4 4 w.heap.size [(.slice (some ⟨b1, 0, none⟩) 2 c1, rdSp 2 [r 5, r 5]), (.slice (some ⟨b2, 0, none⟩) 3 c2, puL k r [D0, D1, d2] 3), (.slice (some ⟨b3, 0, none⟩) 2 c3, rdSp 7 [A, A + 1]), (.slice (some ⟨b4, 0, none⟩) 1 c4, rdSp 2 [r 5])] rfl (by omega) (by omega) _ (sx.out.at_ x21 26 (#[.slice (some ⟨b1, 0, none⟩) 2 c1, .slice (some ⟨b2, 0, none⟩) 3 c2, .slice (some ⟨b3, 0, none⟩) 2 c3, .slice (some ⟨b4, 0, none⟩) 1 c4]) (by repeat (first | (with_reducible exact List.mem_cons_self) | apply List.mem_cons_of_mem))) (sx.out.four (by simp [rdSp]) (by rw [puL_len]; omega) (by simp [rdSp]) (by simp [rdSp])) (by rw [HPL.out]; simp [plL])).mono ?_
          rintro e w38 ⟨v5, rfl, own, hb⟩
          rw [HPL.out] at own
          have OWN := Lib.hid (own_mono2 own sx.out.1.size)
          have HB := Lib.hid (sx.out.1.trans (hb.mono sx.out.1.size))
          have sx2 := Lib.hid (sx.out.later hb)
          clear sx
          have sx := sx2
          clear sx2
          clear own hb
          first | (refine hK.out _ _ ?_ (fun hHeld => ?_)) | (go_wp2_with fail; refine hK.out _ _ ?_ (fun hHeld => ?_))
          · (try dsimp only); exact epl_cells (sx.out.at_ g 25 (stA r) (by repeat (first | (with_reducible exact List.mem_cons_self) | apply List.mem_cons_of_mem)))
          clear hK K
          try simp only [Act.put, List.setIfInBounds_toArray, List.set_cons_zero, List.set_cons_succ]
          refine rg_take (i := 23) (d := some 4) (l := #[true, true, true, true, true, true, true, true, true, true, true, true, true, true, true, true, true, true, true, true, true, true, true, true]) (fuel := 0) (v := ?_) rfl (by kernel_rfl) (by kernel_rfl) (by kernel_rfl) (by kernel_rfl) (by kernel_rfl) (fun _ _ _ h => h) (by kernel_rfl) ?_ (by assumption) ?_
          rotate_left 1
          · (intro wS hSw; (try dsimp only at hSw); go_simp; try with_reducible rfl)
          try simp only [Act.put, List.setIfInBounds_toArray, List.set_cons_zero, List.set_cons_succ]
          refine wpAnyH_done (by kernel_rfl) ?_ _
          go_wp2_with fail
          go_ret
          exact ⟨_, rfl, OWN.out, HB.out⟩
        exact AllReadyH.nil
      refine rg_step (i := 17) (l := #[true, true, true, true, true, true, true, true, false, true, true, false, false, false, true, true, true, true, false, true, false, false, false, false]) rfl (by kernel_rfl) (by kernel_rfl) ?_ ?_
      · intro K hK
        go_simp
        skip
        first | (refine hK.out _ _ ?_ (fun hHeld => ?_)) | (go_wp2_with fail; refine hK.out _ _ ?_ (fun hHeld => ?_))
        · (try dsimp only); exact epl_cells ((sx.out.make 22 #[.int .u16 A, .int .u16 (A + 1)]).at_ g 25 (stA r) (by repeat (first | (with_reducible exact List.mem_cons_self) | apply List.mem_cons_of_mem)))
        clear hK K
        try simp only [Act.put, List.setIfInBounds_toArray, List.set_cons_zero, List.set_cons_succ]
        have sx2 := Lib.hid (sx.out.make 22 #[.int .u16 A, .int .u16 (A + 1)])
        clear sx
        obtain ⟨x17, hx17⟩ : ∃ x17, w11.heap.size = x17 := ⟨_, rfl⟩
        generalize World.alloc _ _ = w39 at sx2 hHeld ⊢
        first | rw [hx17] at sx2 ⊢ | (have e9 : w11.heap.size = x17 := hx17; simp only [World.drew] at e9 sx2 ⊢; rw [e9] at sx2 ⊢)
        have sx := sx2
        clear sx2 hx17
        refine rg_next (i := 8) (l := #[true, true, true, true, true, true, true, true, true, true, true, false, false, false, true, true, true, true, false, true, false, false, false, false]) (fuel := 8) (by kernel_rfl) rfl (by kernel_rfl) (by kernel_rfl) (fun K hK => ?_)
        go_simp
        go_at_call 50
        refine (hlo _).mono ?_
        rintro e wz ⟨rfl, rfl⟩
        first | (refine hK.out _ _ ?_ (fun hHeld => ?_)) | (go_wp2_with fail; refine hK.out _ _ ?_ (fun hHeld => ?_))
        · (try dsimp only); exact epl_cells (sx.out.at_ g 25 (stA r) (by repeat (first | (with_reducible exact List.mem_cons_self) | apply List.mem_cons_of_mem)))
        clear hK K
        try simp only [Act.put, List.setIfInBounds_toArray, List.set_cons_zero, List.set_cons_succ]
        refine rg_next (i := 11) (l := #[true, true, true, true, true, true, true, true, true, true, true, true, false, false, true, true, true, true, false, true, false, false, false, false]) (fuel := 7) (by kernel_rfl) rfl (by kernel_rfl) (by kernel_rfl) (fun K hK => ?_)
        go_simp
        go_at_call 51
        refine (hps _).mono ?_
        rintro e wz ⟨rfl, rfl⟩
        first | (refine hK.out _ _ ?_ (fun hHeld => ?_)) | (go_wp2_with fail; refine hK.out _ _ ?_ (fun hHeld => ?_))
        · (try dsimp only); exact epl_cells (sx.out.at_ g 25 (stA r) (by repeat (first | (with_reducible exact List.mem_cons_self) | apply List.mem_cons_of_mem)))
        clear hK K
        try simp only [Act.put, List.setIfInBounds_toArray, List.set_cons_zero, List.set_cons_succ]
        refine rg_next (i := 12) (l := #[true, true, true, true, true, true, true, true, true, true, true, true, true, false, true, true, true, true, false, true, false, false, false, false]) (fuel := 6) (by kernel_rfl) rfl (by kernel_rfl) (by kernel_rfl) (fun K hK => ?_)
        go_simp
        skip
        first | (refine hK.out _ _ ?_ (fun hHeld => ?_)) | (go_wp2_with fail; refine hK.out _ _ ?_ (fun hHeld => ?_))
        · (try dsimp only); exact epl_cells ((sx.out.make 5 #[.int .u8 D0, .int .u8 D1, .int .u8 d2]).at_ g 25 (stA r) (by repeat (first | (with_reducible exact List.mem_cons_self) | apply List.mem_cons_of_mem)))
        clear hK K
        try simp only [Act.put, List.setIfInBounds_toArray, List.set_cons_zero, List.set_cons_succ]
        have sx2 := Lib.hid (sx.out.make 5 #[.int .u8 D0, .int .u8 D1, .int .u8 d2])
        clear sx
        obtain ⟨x12, hx12⟩ : ∃ x12, w39.heap.size = x12 := ⟨_, rfl⟩
        generalize World.alloc _ _ = w40 at sx2 hHeld ⊢
        first | rw [hx12] at sx2 ⊢ | (have e9 : w39.heap.size = x12 := hx12; simp only [World.drew] at e9 sx2 ⊢; rw [e9] at sx2 ⊢)
        have sx := sx2
        clear sx2 hx12
        refine rg_next (i := 13) (l := #[true, true, true, true, true, true, true, true, true, true, true, true, true, true, true, true, true, true, false, true, false, false, false, false]) (fuel := 5) (by kernel_rfl) rfl (by kernel_rfl) (by kernel_rfl) (fun K hK => ?_)
        go_simp
        go_at_call 86
        refine (epush_any k HK.out gp q x12 3 r HR.out [D0, D1, d2] rfl _ (sx.out.at_ gp 25 (stA r) (by repeat (first | (with_reducible exact List.mem_cons_self) | apply List.mem_cons_of_mem))) (sx.out.at_ q 5 (#[.int .u8 (k : Int)]) (by repeat (first | (with_reducible exact List.mem_cons_self) | apply List.mem_cons_of_mem))) (sx.out.at_ x12 5 (#[.int .u8 D0, .int .u8 D1, .int .u8 d2]) (by repeat (first | (with_reducible exact List.mem_cons_self) | apply List.mem_cons_of_mem)))).mono ?_
        rintro e w41 ⟨v2, rfl, own, kp⟩
        obtain ⟨b2, c2, rfl, z8, z9⟩ := own_form own (by omega)
        clear z8 z9
        have sx2 : Hid (PQe w w41 _ [(x17, 22, #[.int .u16 A, .int .u16 (A + 1)]), (q, 5, #[.int .u8 (k : Int)]), (gi, 25, stA r), (g, 25, stA r)]) := Lib.hid (sx.out.pushed (sx.out.at_ gp 25 (stA r) (by repeat (first | (with_reducible exact List.mem_cons_self) | apply List.mem_cons_of_mem))) HGP.out.1 kp own rfl (by intro x hx; simp only [List.mem_cons, List.not_mem_nil, or_false] at hx; rcases hx with rfl | rfl | rfl | rfl <;> (first | exact ⟨by repeat (first | (with_reducible exact List.mem_cons_self) | apply List.mem_cons_of_mem), Blk.ne_ (sx.out.at_ x17 22 (#[.int .u16 A, .int .u16 (A + 1)]) (by repeat (first | (with_reducible exact List.mem_cons_self) | apply List.mem_cons_of_mem))) (sx.out.at_ gp 25 (stA r) (by repeat (first | (with_reducible exact List.mem_cons_self) | apply List.mem_cons_of_mem))) (by decide)⟩ | exact ⟨by repeat (first | (with_reducible exact List.mem_cons_self) | apply List.mem_cons_of_mem), HGP.out.2.2.1⟩ | exact ⟨by repeat (first | (with_reducible exact List.mem_cons_self) | apply List.mem_cons_of_mem), HGP.out.2.1⟩ | exact ⟨by repeat (first | (with_reducible exact List.mem_cons_self) | apply List.mem_cons_of_mem), HGP.out.2.2.2⟩)))
        clear sx
        have sx := sx2
        clear sx2
        clear own kp
        first | (refine hK.out _ _ ?_ (fun hHeld => ?_)) | (go_wp2_with fail; refine hK.out _ _ ?_ (fun hHeld => ?_))
        · (try dsimp only); exact epl_cells (sx.out.at_ g 25 (stA r) (by repeat (first | (with_reducible exact List.mem_cons_self) | apply List.mem_cons_of_mem)))
        clear hK K
        try simp only [Act.put, List.setIfInBounds_toArray, List.set_cons_zero, List.set_cons_succ]
        refine rg_next (i := 18) (l := #[true, true, true, true, true, true, true, true, true, true, true, true, true, true, true, true, true, true, true, true, false, false, false, false]) (fuel := 4) (by kernel_rfl) rfl (by kernel_rfl) (by kernel_rfl) (fun K hK => ?_)
        go_simp
        go_at_call 52
        refine (ereading_any 7 x17 2 2 [A, A + 1] _ rfl (by omega) (sx.out.at_ x17 22 (#[.int .u16 A, .int .u16 (A + 1)]) (by repeat (first | (with_reducible exact List.mem_cons_self) | apply List.mem_cons_of_mem)))).mono ?_
        rintro e w42 ⟨v3, rfl, own, hb⟩
        obtain ⟨b3, c3, rfl, z8, z9⟩ := own_form own (by omega)
        clear z8 z9
        have sx2 := Lib.hid (sx.out.row hb own rfl)
        clear sx
        have sx := sx2
        clear sx2
        clear own hb
        first | (refine hK.out _ _ ?_ (fun hHeld => ?_)) | (go_wp2_with fail; refine hK.out _ _ ?_ (fun hHeld => ?_))
        · (try dsimp only); exact epl_cells (sx.out.at_ g 25 (stA r) (by repeat (first | (with_reducible exact List.mem_cons_self) | apply List.mem_cons_of_mem)))
        clear hK K
        try simp only [Act.put, List.setIfInBounds_toArray, List.set_cons_zero, List.set_cons_succ]
        refine rg_next (i := 20) (l := #[true, true, true, true, true, true, true, true, true, true, true, true, true, true, true, true, true, true, true, true, true, false, false, false]) (fuel := 3) (by kernel_rfl) rfl (by kernel_rfl) (by kernel_rfl) (fun K hK => ?_)
        go_simp
        go_at_call 84
        refine (eidle_1 gi r _ (sx.out.at_ gi 25 (stA r) (by repeat (first | (with_reducible exact List.mem_cons_self) | apply List.mem_cons_of_mem)))).mono ?_
        rintro e w43 ⟨v4, rfl, own, hb⟩
        obtain ⟨b4, c4, rfl, z8, z9⟩ := own_form own (by omega)
        clear z8 z9
        have sx2 := Lib.hid (sx.out.row hb own rfl)
        clear sx
        have sx := sx2
        clear sx2
        clear own hb
        first | (refine hK.out _ _ ?_ (fun hHeld => ?_)) | (go_wp2_with fail; refine hK.out _ _ ?_ (fun hHeld => ?_))
        · (try dsimp only); exact epl_cells (sx.out.at_ g 25 (stA r) (by repeat (first | (with_reducible exact List.mem_cons_self) | apply List.mem_cons_of_mem)))
        clear hK K
        try simp only [Act.put, List.setIfInBounds_toArray, List.set_cons_zero, List.set_cons_succ]
        refine rg_next (i := 21) (l := #[true, true, true, true, true, true, true, true, true, true, true, true, true, true, true, true, true, true, true, true, true, true, false, false]) (fuel := 2) (by kernel_rfl) rfl (by kernel_rfl) (by kernel_rfl) (fun K hK => ?_)
        go_simp
        skip
        first | (refine hK.out _ _ ?_ (fun hHeld => ?_)) | (go_wp2_with fail; refine hK.out _ _ ?_ (fun hHeld => ?_))
        · (try dsimp only); exact epl_cells ((sx.out.make 26 #[.slice (some ⟨b1, 0, none⟩) 2 c1, .slice (some ⟨b2, 0, none⟩) 3 c2, .slice (some ⟨b3, 0, none⟩) 2 c3, .slice (some ⟨b4, 0, none⟩) 1 c4]).at_ g 25 (stA r) (by repeat (first | (with_reducible exact List.mem_cons_self) | apply List.mem_cons_of_mem)))
        clear hK K
        try simp only [Act.put, List.setIfInBounds_toArray, List.set_cons_zero, List.set_cons_succ]
        have sx2 := Lib.hid (sx.out.make 26 #[.slice (some ⟨b1, 0, none⟩) 2 c1, .slice (some ⟨b2, 0, none⟩) 3 c2, .slice (some ⟨b3, 0, none⟩) 2 c3, .slice (some ⟨b4, 0, none⟩) 1 c4])
        clear sx
        obtain ⟨x21, hx21⟩ : ∃ x21, w43.heap.size = x21 := ⟨_, rfl⟩
        generalize World.alloc _ _ = w44 at sx2 hHeld ⊢
        first | rw [hx21] at sx2 ⊢ | (have e9 : w43.heap.size = x21 := hx21; simp only [World.drew] at e9 sx2 ⊢; rw [e9] at sx2 ⊢)
        have sx := sx2
        clear sx2 hx21
        refine rg_next (i := 22) (l := #[true, true, true, true, true, true, true, true, true, true, true, true, true, true, true, true, true, true, true, true, true, true, true, false]) (fuel := 1) (by kernel_rfl) rfl (by kernel_rfl) (by kernel_rfl) (fun K hK => ?_)
        go_simp
        go_at_call 48
        refine (etogether_any x21 4 4 w.heap.size [(.slice (some ⟨b1, 0, none⟩) 2 c1, rdSp 2 [r 5, r 5]), (.slice (some ⟨b2, 0, none⟩) 3 c2, puL k r [D0, D1, d2] 3), (.slice (some ⟨b3, 0, none⟩) 2 c3, rdSp 7 [A, A + 1]), (.slice (some ⟨b4, 0, none⟩) 1 c4, rdSp 2 [r 5])] rfl (by omega) (by omega) _ (sx.out.at_ x21 26 (#[.slice (some ⟨b1, 0, none⟩) 2 c1, .slice (some ⟨b2, 0, none⟩) 3 c2, .slice (some ⟨b3, 0, none⟩) 2 c3, .slice (some ⟨b4, 0, none⟩) 1 c4]) (by repeat (first | (with_reducible exact List.mem_cons_self) | apply List.mem_cons_of_mem))) (sx.out.four (by simp [rdSp]) (by rw [puL_len]; omega) (by simp [rdSp]) (by simp [rdSp])) (by rw [HPL.out]; simp [plL])).mono ?_
        rintro e w45 ⟨v5, rfl, own, hb⟩
        rw [HPL.out] at own
        have OWN := Lib.hid (own_mono2 own sx.out.1.size)
        have HB := Lib.hid (sx.out.1.trans (hb.mono sx.out.1.size))
        have sx2 := Lib.hid (sx.out.later hb)
        clear sx
        have sx := sx2
        clear sx2
        clear own hb
        first | (refine hK.out _ _ ?_ (fun hHeld => ?_)) | (go_wp2_with fail; refine hK.out _ _ ?_ (fun hHeld => ?_))
        · (try dsimp only); exact epl_cells (sx.out.at_ g 25 (stA r) (by repeat (first | (with_reducible exact List.mem_cons_self) | apply List.mem_cons_of_mem)))
        clear hK K
        try simp only [Act.put, List.setIfInBounds_toArray, List.set_cons_zero, List.set_cons_succ]
        refine rg_take (i := 23) (d := some 4) (l := #[true, true, true, true, true, true, true, true, true, true, true, true, true, true, true, true, true, true, true, true, true, true, true, true]) (fuel := 0) (v := ?_) rfl (by kernel_rfl) (by kernel_rfl) (by kernel_rfl) (by kernel_rfl) (by kernel_rfl) (fun _ _ _ h => h) (by kernel_rfl) ?_ (by assumption) ?_
        rotate_left 1
        · (intro wS hSw; (try dsimp only at hSw); go_simp; try with_reducible rfl)
        try simp only [Act.put, List.setIfInBounds_toArray, List.set_cons_zero, List.set_cons_succ]
        refine wpAnyH_done (by kernel_rfl) ?_ _
        go_wp2_with fail
        go_ret
        exact ⟨_, rfl, OWN.out, HB.out⟩
      exact AllReadyH.nil
    refine rg_step (i := 17) (l := #[true, true, true, true, true, false, true, true, false, true, true, false, false, false, true, true, true, true, false, true, false, false, false, false]) rfl (by kernel_rfl) (by kernel_rfl) ?_ ?_
    · intro K hK
      go_simp
      skip
      first | (refine hK.out _ _ ?_ (fun hHeld => ?_)) | (go_wp2_with fail; refine hK.out _ _ ?_ (fun hHeld => ?_))
      · (try dsimp only); exact epl_cells ((sx.out.make 22 #[.int .u16 A, .int .u16 (A + 1)]).at_ g 25 (stA r) (by repeat (first | (with_reducible exact List.mem_cons_self) | apply List.mem_cons_of_mem)))
      clear hK K
      try simp only [Act.put, List.setIfInBounds_toArray, List.set_cons_zero, List.set_cons_succ]
      have sx2 := Lib.hid (sx.out.make 22 #[.int .u16 A, .int .u16 (A + 1)])
      clear sx
      obtain ⟨x17, hx17⟩ : ∃ x17, w11.heap.size = x17 := ⟨_, rfl⟩
      generalize World.alloc _ _ = w46 at sx2 hHeld ⊢
      first | rw [hx17] at sx2 ⊢ | (have e9 : w11.heap.size = x17 := hx17; simp only [World.drew] at e9 sx2 ⊢; rw [e9] at sx2 ⊢)
      have sx := sx2
      clear sx2 hx17
      refine rg_next (i := 5) (l := #[true, true, true, true, true, true, true, true, false, true, true, false, false, false, true, true, true, true, false, true, false, false, false, false]) (fuel := 9) (by kernel_rfl) rfl (by kernel_rfl) (by kernel_rfl) (fun K hK => ?_)
      go_simp
      go_at_call 49
      refine (hhi _).mono ?_
      rintro e wz ⟨rfl, rfl⟩
      first | (refine hK.out _ _ ?_ (fun hHeld => ?_)) | (go_wp2_with fail; refine hK.out _ _ ?_ (fun hHeld => ?_))
      · (try dsimp only); exact epl_cells (sx.out.at_ g 25 (stA r) (by repeat (first | (with_reducible exact List.mem_cons_self) | apply List.mem_cons_of_mem)))
      clear hK K
      try simp only [Act.put, List.setIfInBounds_toArray, List.set_cons_zero, List.set_cons_succ]
      refine rg_next (i := 8) (l := #[true, true, true, true, true, true, true, true, true, true, true, false, false, false, true, true, true, true, false, true, false, false, false, false]) (fuel := 8) (by kernel_rfl) rfl (by kernel_rfl) (by kernel_rfl) (fun K hK => ?_)
      go_simp
      go_at_call 50
      refine (hlo _).mono ?_
      rintro e wz ⟨rfl, rfl⟩
      first | (refine hK.out _ _ ?_ (fun hHeld => ?_)) | (go_wp2_with fail; refine hK.out _ _ ?_ (fun hHeld => ?_))
      · (try dsimp only); exact epl_cells (sx.out.at_ g 25 (stA r) (by repeat (first | (with_reducible exact List.mem_cons_self) | apply List.mem_cons_of_mem)))
      clear hK K
      try simp only [Act.put, List.setIfInBounds_toArray, List.set_cons_zero, List.set_cons_succ]
      refine rg_next (i := 11) (l := #[true, true, true, true, true, true, true, true, true, true, true, true, false, false, true, true, true, true, false, true, false, false, false, false]) (fuel := 7) (by kernel_rfl) rfl (by kernel_rfl) (by kernel_rfl) (fun K hK => ?_)
      go_simp
      go_at_call 51
      refine (hps _).mono ?_
      rintro e wz ⟨rfl, rfl⟩
      first | (refine hK.out _ _ ?_ (fun hHeld => ?_)) | (go_wp2_with fail; refine hK.out _ _ ?_ (fun hHeld => ?_))
      · (try dsimp only); exact epl_cells (sx.out.at_ g 25 (stA r) (by repeat (first | (with_reducible exact List.mem_cons_self) | apply List.mem_cons_of_mem)))
      clear hK K
      try simp only [Act.put, List.setIfInBounds_toArray, List.set_cons_zero, List.set_cons_succ]
      refine rg_next (i := 12) (l := #[true, true, true, true, true, true, true, true, true, true, true, true, true, false, true, true, true, true, false, true, false, false, false, false]) (fuel := 6) (by kernel_rfl) rfl (by kernel_rfl) (by kernel_rfl) (fun K hK => ?_)
      go_simp
      skip
      first | (refine hK.out _ _ ?_ (fun hHeld => ?_)) | (go_wp2_with fail; refine hK.out _ _ ?_ (fun hHeld => ?_))
      · (try dsimp only); exact epl_cells ((sx.out.make 5 #[.int .u8 D0, .int .u8 D1, .int .u8 d2]).at_ g 25 (stA r) (by repeat (first | (with_reducible exact List.mem_cons_self) | apply List.mem_cons_of_mem)))
      clear hK K
      try simp only [Act.put, List.setIfInBounds_toArray, List.set_cons_zero, List.set_cons_succ]
      have sx2 := Lib.hid (sx.out.make 5 #[.int .u8 D0, .int .u8 D1, .int .u8 d2])
      clear sx
      obtain ⟨x12, hx12⟩ : ∃ x12, w46.heap.size = x12 := ⟨_, rfl⟩
      generalize World.alloc _ _ = w47 at sx2 hHeld ⊢
      first | rw [hx12] at sx2 ⊢ | (have e9 : w46.heap.size = x12 := hx12; simp only [World.drew] at e9 sx2 ⊢; rw [e9] at sx2 ⊢)
      have sx := sx2
      clear sx2 hx12
      refine rg_next (i := 13) (l := #[true, true, true, true, true, true, true, true, true, true, true, true, true, true, true, true, true, true, false, true, false, false, false, false]) (fuel := 5) (by kernel_rfl) rfl (by kernel_rfl) (by kernel_rfl) (fun K hK => ?_)
      go_simp
      go_at_call 86
      refine (epush_any k HK.out gp q x12 3 r HR.out [D0, D1, d2] rfl _ (sx.out.at_ gp 25 (stA r) (by repeat (first | (with_reducible exact List.mem_cons_self) | apply List.mem_cons_of_mem))) (sx.out.at_ q 5 (#[.int .u8 (k : Int)]) (by repeat (first | (with_reducible exact List.mem_cons_self) | apply List.mem_cons_of_mem))) (sx.out.at_ x12 5 (#[.int .u8 D0, .int .u8 D1, .int .u8 d2]) (by repeat (first | (with_reducible exact List.mem_cons_self) | apply List.mem_cons_of_mem)))).mono ?_
      rintro e w48 ⟨v2, rfl, own, kp⟩
      obtain ⟨b2, c2, rfl, z8, z9⟩ := own_form own (by omega)
      clear z8 z9
      have sx2 : Hid (PQe w w48 _ [(x17, 22, #[.int .u16 A, .int .u16 (A + 1)]), (q, 5, #[.int .u8 (k : Int)]), (gi, 25, stA r), (g, 25, stA r)]) := Lib.hid (sx.out.pushed (sx.out.at_ gp 25 (stA r) (by repeat (first | (with_reducible exact List.mem_cons_self) | apply List.mem_cons_of_mem))) HGP.out.1 kp own rfl (by intro x hx; simp only [List.mem_cons, List.not_mem_nil, or_false] at hx; rcases hx with rfl | rfl | rfl | rfl <;> (first | exact ⟨by repeat (first | (with_reducible exact List.mem_cons_self) | apply List.mem_cons_of_mem), Blk.ne_ (sx.out.at_ x17 22 (#[.int .u16 A, .int .u16 (A + 1)]) (by repeat (first | (with_reducible exact List.mem_cons_self) | apply List.mem_cons_of_mem))) (sx.out.at_ gp 25 (stA r) (by repeat (first | (with_reducible exact List.mem_cons_self) | apply List.mem_cons_of_mem))) (by decide)⟩ | exact ⟨by repeat (first | (with_reducible exact List.mem_cons_self) | apply List.mem_cons_of_mem), HGP.out.2.2.1⟩ | exact ⟨by repeat (first | (with_reducible exact List.mem_cons_self) | apply List.mem_cons_of_mem), HGP.out.2.1⟩ | exact ⟨by repeat (first | (with_reducible exact List.mem_cons_self) | apply List.mem_cons_of_mem), HGP.out.2.2.2⟩)))
      clear sx
      have sx := sx2
      clear sx2
      clear own kp
      first | (refine hK.out _ _ ?_ (fun hHeld => ?_)) | (go_wp2_with fail; refine hK.out _ _ ?_ (fun hHeld => ?_))
      · (try dsimp only); exact epl_cells (sx.out.at_ g 25 (stA r) (by repeat (first | (with_reducible exact List.mem_cons_self) | apply List.mem_cons_of_mem)))
      clear hK K
      try simp only [Act.put, List.setIfInBounds_toArray, List.set_cons_zero, List.set_cons_succ]
      refine rg_next (i := 18) (l := #[true, true, true, true, true, true, true, true, true, true, true, true, true, true, true, true, true, true, true, true, false, false, false, false]) (fuel := 4) (by kernel_rfl) rfl (by kernel_rfl) (by kernel_rfl) (fun K hK => ?_)
      go_simp
      go_at_call 52
      refine (ereading_any 7 x17 2 2 [A, A + 1] _ rfl (by omega) (sx.out.at_ x17 22 (#[.int .u16 A, .int .u16 (A + 1)]) (by repeat (first | (with_reducible exact List.mem_cons_self) | apply List.mem_cons_of_mem)))).mono ?_
      rintro e w49 ⟨v3, rfl, own, hb⟩
      obtain ⟨b3, c3, rfl, z8, z9⟩ := own_form own (by omega)
      clear z8 z9
      have sx2 := Lib.hid (sx.out.row hb own rfl)
      clear sx
      have sx := sx2
      clear sx2
      clear own hb
      first | (refine hK.out _ _ ?_ (fun hHeld => ?_)) | (go_wp2_with fail; refine hK.out _ _ ?_ (fun hHeld => ?_))
      · (try dsimp only); exact epl_cells (sx.out.at_ g 25 (stA r) (by repeat (first | (with_reducible exact List.mem_cons_self) | apply List.mem_cons_of_mem)))
      clear hK K
      try simp only [Act.put, List.setIfInBounds_toArray, List.set_cons_zero, List.set_cons_succ]
      refine rg_next (i := 20) (l := #[true, true, true, true, true, true, true, true, true, true, true, true, true, true, true, true, true, true, true, true, true, false, false, false]) (fuel := 3) (by kernel_rfl) rfl (by kernel_rfl) (by kernel_rfl) (fun K hK => ?_)
      go_simp
      go_at_call 84
      refine (eidle_1 gi r _ (sx.out.at_ gi 25 (stA r) (by repeat (first | (with_reducible exact List.mem_cons_self) | apply List.mem_cons_of_mem)))).mono ?_
      rintro e w50 ⟨v4, rfl, own, hb⟩
      obtain ⟨b4, c4, rfl, z8, z9⟩ := own_form own (by omega)
      clear z8 z9
      have sx2 := Lib.hid (sx.out.row hb own rfl)
      clear sx
      have sx := sx2
      clear sx2
      clear own hb
      first | (refine hK.out _ _ ?_ (fun hHeld => ?_)) | (go_wp2_with fail; refine hK.out _ _ ?_ (fun hHeld => ?_))
      · (try dsimp only); exact epl_cells (sx.out.at_ g 25 (stA r) (by repeat (first | (with_reducible exact List.mem_cons_self) | apply List.mem_cons_of_mem)))
      clear hK K
      try simp only [Act.put, List.setIfInBounds_toArray, List.set_cons_zero, List.set_cons_succ]
      refine rg_next (i := 21) (l := #[true, true, true, true, true, true, true, true, true, true, true, true, true, true, true, true, true, true, true, true, true, true, false, false]) (fuel := 2) (by kernel_rfl) rfl (by kernel_rfl) (by kernel_rfl) (fun K hK => ?_)
      go_simp
      skip
      first | (refine hK.out _ _ ?_ (fun hHeld => ?_)) | (go_wp2_with fail; refine hK.out _ _ ?_ (fun hHeld => ?_))
      · (try dsimp only); exact epl_cells ((sx.out.make 26 #[.slice (some ⟨b1, 0, none⟩) 2 c1, .slice (some ⟨b2, 0, none⟩) 3 c2, .slice (some ⟨b3, 0, none⟩) 2 c3, .slice (some ⟨b4, 0, none⟩) 1 c4]).at_ g 25 (stA r) (by repeat (first | (with_reducible exact List.mem_cons_self) | apply List.mem_cons_of_mem)))
      clear hK K
      try simp only [Act.put, List.setIfInBounds_toArray, List.set_cons_zero, List.set_cons_succ]
      have sx2 := Lib.hid (sx.out.make 26 #[.slice (some ⟨b1, 0, none⟩) 2 c1, .slice (some ⟨b2, 0, none⟩) 3 c2, .slice (some ⟨b3, 0, none⟩) 2 c3, .slice (some ⟨b4, 0, none⟩) 1 c4])
      clear sx
      obtain ⟨x21, hx21⟩ : ∃ x21, w50.heap.size = x21 := ⟨_, rfl⟩
      generalize World.alloc _ _ = w51 at sx2 hHeld ⊢
      first | rw [hx21] at sx2 ⊢ | (have e9 : w50.heap.size = x21 := hx21; simp only [World.drew] at e9 sx2 ⊢; rw [e9] at sx2 ⊢)
      have sx := sx2
      clear sx2 hx21
      refine rg_next (i := 22) (l := #[true, true, true, true, true, true, true, true, true, true, true, true, true, true, true, true, true, true, true, true, true, true, true, false]) (fuel := 1) (by kernel_rfl) rfl (by kernel_rfl) (by kernel_rfl) (fun K hK => ?_)
      go_simp
      go_at_call 48
      refine (etogether_any x21 4 4 w.heap.size [(.slice (some ⟨b1, 0, none⟩) 2 c1, rdSp 2 [r 5, r 5]), (.slice (some ⟨b2, 0, none⟩) 3 c2, puL k r [D0, D1, d2] 3), (.slice (some ⟨b3, 0, none⟩) 2 c3, rdSp 7 [A, A + 1]), (.slice (some ⟨b4, 0, none⟩) 1 c4, rdSp 2 [r 5])] rfl (by omega) (by omega) _ (sx.out.at_ x21 26 (#[.slice (some ⟨b1, 0, none⟩) 2 c1, .slice (some ⟨b2, 0, none⟩) 3 c2, .slice (some ⟨b3, 0, none⟩) 2 c3, .slice (some ⟨b4, 0, none⟩) 1 c4]) (by repeat (first | (with_reducible exact List.mem_cons_self) | apply List.mem_cons_of_mem))) (sx.out.four (by simp [rdSp]) (by rw [puL_len]; omega) (by simp [rdSp]) (by simp [rdSp])) (by rw [HPL.out]; simp [plL])).mono ?_
      rintro e w52 ⟨v5, rfl, own, hb⟩
      rw [HPL.out] at own
      have OWN := Lib.hid (own_mono2 own sx.out.1.size)
      have HB := Lib.hid (sx.out.1.trans (hb.mono sx.out.1.size))
      have sx2 := Lib.hid (sx.out.later hb)
      clear sx
      have sx := sx2
      clear sx2
      clear own hb
      first | (refine hK.out _ _ ?_ (fun hHeld => ?_)) | (go_wp2_with fail; refine hK.out _ _ ?_ (fun hHeld => ?_))
      · (try dsimp only); exact epl_cells (sx.out.at_ g 25 (stA r) (by repeat (first | (with_reducible exact List.mem_cons_self) | apply List.mem_cons_of_mem)))
      clear hK K
      try simp only [Act.put, List.setIfInBounds_toArray, List.set_cons_zero, List.set_cons_succ]
      refine rg_take (i := 23) (d := some 4) (l := #[true, true, true, true, true, true, true, true, true, true, true, true, true, true, true, true, true, true, true, true, true, true, true, true]) (fuel := 0) (v := ?_) rfl (by kernel_rfl) (by kernel_rfl) (by kernel_rfl) (by kernel_rfl) (by kernel_rfl) (fun _ _ _ h => h) (by kernel_rfl) ?_ (by assumption) ?_
      rotate_left 1
      · (intro wS hSw; (try dsimp only at hSw); go_simp; try with_reducible rfl)
      try simp only [Act.put, List.setIfInBounds_toArray, List.set_cons_zero, List.set_cons_succ]
      refine wpAnyH_done (by kernel_rfl) ?_ _
      go_wp2_with fail
      go_ret
      exact ⟨_, rfl, OWN.out, HB.out⟩
    exact AllReadyH.nil
  refine rg_step (i := 17) (l := #[true, false, true, true, true, false, true, true, false, true, true, false, false, false, true, true, true, true, false, true, false, false, false, false]) rfl (by kernel_rfl) (by kernel_rfl) ?_ ?_
  · intro K hK
    go_simp
    skip
    first | (refine hK.out _ _ ?_ (fun hHeld => ?_)) | (go_wp2_with fail; refine hK.out _ _ ?_ (fun hHeld => ?_))
    · (try dsimp only); exact epl_cells ((sx.out.make 22 #[.int .u16 A, .int .u16 (A + 1)]).at_ g 25 (stA r) (by repeat (first | (with_reducible exact List.mem_cons_self) | apply List.mem_cons_of_mem)))
    clear hK K
    try simp only [Act.put, List.setIfInBounds_toArray, List.set_cons_zero, List.set_cons_succ]
    have sx2 := Lib.hid (sx.out.make 22 #[.int .u16 A, .int .u16 (A + 1)])
    clear sx
    obtain ⟨x17, hx17⟩ : ∃ x17, wD.heap.size = x17 := ⟨_, rfl⟩
    generalize World.alloc _ _ = w53 at sx2 hHeld ⊢
    first | rw [hx17] at sx2 ⊢ | (have e9 : wD.heap.size = x17 := hx17; simp only [World.drew] at e9 sx2 ⊢; rw [e9] at sx2 ⊢)
    have sx := sx2
    clear sx2 hx17
    refine rg_next (i := 1) (l := #[true, true, true, true, true, false, true, true, false, true, true, false, false, false, true, true, true, true, false, true, false, false, false, false]) (fuel := 10) (by kernel_rfl) rfl (by kernel_rfl) (by kernel_rfl) (fun K hK => ?_)
    go_simp
    go_at_call 84
    refine (eidle_2 gi r _ (sx.out.at_ gi 25 (stA r) (by repeat (first | (with_reducible exact List.mem_cons_self) | apply List.mem_cons_of_mem)))).mono ?_
    rintro e w54 ⟨v1, rfl, own, hb⟩
    obtain ⟨b1, c1, rfl, z8, z9⟩ := own_form own (by omega)
    clear z8 z9
    have sx2 := Lib.hid (sx.out.row hb own rfl)
    clear sx
    have sx := sx2
    clear sx2
    clear own hb
    first | (refine hK.out _ _ ?_ (fun hHeld => ?_)) | (go_wp2_with fail; refine hK.out _ _ ?_ (fun hHeld => ?_))
    · (try dsimp only); exact epl_cells (sx.out.at_ g 25 (stA r) (by repeat (first | (with_reducible exact List.mem_cons_self) | apply List.mem_cons_of_mem)))
    clear hK K
    try simp only [Act.put, List.setIfInBounds_toArray, List.set_cons_zero, List.set_cons_succ]
    refine rg_next (i := 5) (l := #[true, true, true, true, true, true, true, true, false, true, true, false, false, false, true, true, true, true, false, true, false, false, false, false]) (fuel := 9) (by kernel_rfl) rfl (by kernel_rfl) (by kernel_rfl) (fun K hK => ?_)
    go_simp
    go_at_call 49
    refine (hhi _).mono ?_
    rintro e wz ⟨rfl, rfl⟩
    first | (refine hK.out _ _ ?_ (fun hHeld => ?_)) | (go_wp2_with fail; refine hK.out _ _ ?_ (fun hHeld => ?_))
    · (try dsimp only); exact epl_cells (sx.out.at_ g 25 (stA r) (by repeat (first | (with_reducible exact List.mem_cons_self) | apply List.mem_cons_of_mem)))
    clear hK K
    try simp only [Act.put, List.setIfInBounds_toArray, List.set_cons_zero, List.set_cons_succ]
    refine rg_next (i := 8) (l := #[true, true, true, true, true, true, true, true, true, true, true, false, false, false, true, true, true, true, false, true, false, false, false, false]) (fuel := 8) (by kernel_rfl) rfl (by kernel_rfl) (by kernel_rfl) (fun K hK => ?_)
    go_simp
    go_at_call 50
    refine (hlo _).mono ?_
    rintro e wz ⟨rfl, rfl⟩
    first | (refine hK.out _ _ ?_ (fun hHeld => ?_)) | (go_wp2_with fail; refine hK.out _ _ ?_ (fun hHeld => ?_))
    · (try dsimp only); exact epl_cells (sx.out.at_ g 25 (stA r) (by repeat (first | (with_reducible exact List.mem_cons_self) | apply List.mem_cons_of_mem)))
    clear hK K
    try simp only [Act.put, List.setIfInBounds_toArray, List.set_cons_zero, List.set_cons_succ]
    refine rg_next (i := 11) (l := #[true, true, true, true, true, true, true, true, true, true, true, true, false, false, true, true, true, true, false, true, false, false, false, false]) (fuel := 7) (by kernel_rfl) rfl (by kernel_rfl) (by kernel_rfl) (fun K hK => ?_)
    go_simp
    go_at_call 51
    refine (hps _).mono ?_
    rintro e wz ⟨rfl, rfl⟩
    first | (refine hK.out _ _ ?_ (fun hHeld => ?_)) | (go_wp2_with fail; refine hK.out _ _ ?_ (fun hHeld => ?_))
    · (try dsimp only); exact epl_cells (sx.out.at_ g 25 (stA r) (by repeat (first | (with_reducible exact List.mem_cons_self) | apply List.mem_cons_of_mem)))
    clear hK K
    try simp only [Act.put, List.setIfInBounds_toArray, List.set_cons_zero, List.set_cons_succ]
    refine rg_next (i := 12) (l := #[true, true, true, true, true, true, true, true, true, true, true, true, true, false, true, true, true, true, false, true, false, false, false, false]) (fuel := 6) (by kernel_rfl) rfl (by kernel_rfl) (by kernel_rfl) (fun K hK => ?_)
    go_simp
    skip
    first | (refine hK.out _ _ ?_ (fun hHeld => ?_)) | (go_wp2_with fail; refine hK.out _ _ ?_ (fun hHeld => ?_))
    · (try dsimp only); exact epl_cells ((sx.out.make 5 #[.int .u8 D0, .int .u8 D1, .int .u8 d2]).at_ g 25 (stA r) (by repeat (first | (with_reducible exact List.mem_cons_self) | apply List.mem_cons_of_mem)))
    clear hK K
    try simp only [Act.put, List.setIfInBounds_toArray, List.set_cons_zero, List.set_cons_succ]
    have sx2 := Lib.hid (sx.out.make 5 #[.int .u8 D0, .int .u8 D1, .int .u8 d2])
    clear sx
    obtain ⟨x12, hx12⟩ : ∃ x12, w54.heap.size = x12 := ⟨_, rfl⟩
    generalize World.alloc _ _ = w55 at sx2 hHeld ⊢
    first | rw [hx12] at sx2 ⊢ | (have e9 : w54.heap.size = x12 := hx12; simp only [World.drew] at e9 sx2 ⊢; rw [e9] at sx2 ⊢)
    have sx := sx2
    clear sx2 hx12
    refine rg_next (i := 13) (l := #[true, true, true, true, true, true, true, true, true, true, true, true, true, true, true, true, true, true, false, true, false, false, false, false]) (fuel := 5) (by kernel_rfl) rfl (by kernel_rfl) (by kernel_rfl) (fun K hK => ?_)
    go_simp
    go_at_call 86
    refine (epush_any k HK.out gp q x12 3 r HR.out [D0, D1, d2] rfl _ (sx.out.at_ gp 25 (stA r) (by repeat (first | (with_reducible exact List.mem_cons_self) | apply List.mem_cons_of_mem))) (sx.out.at_ q 5 (#[.int .u8 (k : Int)]) (by repeat (first | (with_reducible exact List.mem_cons_self) | apply List.mem_cons_of_mem))) (sx.out.at_ x12 5 (#[.int .u8 D0, .int .u8 D1, .int .u8 d2]) (by repeat (first | (with_reducible exact List.mem_cons_self) | apply List.mem_cons_of_mem)))).mono ?_
    rintro e w56 ⟨v2, rfl, own, kp⟩
    obtain ⟨b2, c2, rfl, z8, z9⟩ := own_form own (by omega)
    clear z8 z9
    have sx2 : Hid (PQe w w56 _ [(x17, 22, #[.int .u16 A, .int .u16 (A + 1)]), (q, 5, #[.int .u8 (k : Int)]), (gi, 25, stA r), (g, 25, stA r)]) := Lib.hid (sx.out.pushed (sx.out.at_ gp 25 (stA r) (by repeat (first | (with_reducible exact List.mem_cons_self) | apply List.mem_cons_of_mem))) HGP.out.1 kp own rfl (by intro x hx; simp only [List.mem_cons, List.not_mem_nil, or_false] at hx; rcases hx with rfl | rfl | rfl | rfl <;> (first | exact ⟨by repeat (first | (with_reducible exact List.mem_cons_self) | apply List.mem_cons_of_mem), Blk.ne_ (sx.out.at_ x17 22 (#[.int .u16 A, .int .u16 (A + 1)]) (by repeat (first | (with_reducible exact List.mem_cons_self) | apply List.mem_cons_of_mem))) (sx.out.at_ gp 25 (stA r) (by repeat (first | (with_reducible exact List.mem_cons_self) | apply List.mem_cons_of_mem))) (by decide)⟩ | exact ⟨by repeat (first | (with_reducible exact List.mem_cons_self) | apply List.mem_cons_of_mem), HGP.out.2.2.1⟩ | exact ⟨by repeat (first | (with_reducible exact List.mem_cons_self) | apply List.mem_cons_of_mem), HGP.out.2.1⟩ | exact ⟨by repeat (first | (with_reducible exact List.mem_cons_self) | apply List.mem_cons_of_mem), HGP.out.2.2.2⟩)))
    clear sx
    have sx := sx2
    clear sx2
    clear own kp
    first | (refine hK.out _ _ ?_ (fun hHeld => ?_)) | (go_wp2_with fail; refine hK.out _ _ ?_ (fun hHeld => ?_))
    · (try dsimp only); exact epl_cells (sx.out.at_ g 25 (stA r) (by repeat (first | (with_reducible exact List.mem_cons_self) | apply List.mem_cons_of_mem)))
    clear hK K
    try simp only [Act.put, List.setIfInBounds_toArray, List.set_cons_zero, List.set_cons_succ]
    refine rg_next (i := 18) (l := #[true, true, true, true, true, true, true, true, true, true, true, true, true, true, true, true, true, true, true, true, false, false, false, false]) (fuel := 4) (by kernel_rfl) rfl (by kernel_rfl) (by kernel_rfl) (fun K hK => ?_)
    go_simp
    go_at_call 52
    refine (ereading_any 7 x17 2 2 [A, A + 1] _ rfl (by omega) (sx.out.at_ x17 22 (#[.int .u16 A, .int .u16 (A + 1)]) (by repeat (first | (with_reducible exact List.mem_cons_self) | apply List.mem_cons_of_mem)))).mono ?_
    rintro e w57 ⟨v3, rfl, own, hb⟩
    obtain ⟨b3, c3, rfl, z8, z9⟩ := own_form own (by omega)
    clear z8 z9
    have sx2 := Lib.hid (sx.out.row hb own rfl)
    clear sx
    have sx := sx2
    clear sx2
    clear own hb
    first | (refine hK.out _ _ ?_ (fun hHeld => ?_)) | (go_wp2_with fail; refine hK.out _ _ ?_ (fun hHeld => ?_))
    · (try dsimp only); exact epl_cells (sx.out.at_ g 25 (stA r) (by repeat (first | (with_reducible exact List.mem_cons_self) | apply List.mem_cons_of_mem)))
    clear hK K
    try simp only [Act.put, List.setIfInBounds_toArray, List.set_cons_zero, List.set_cons_succ]
    refine rg_next (i := 20) (l := #[true, true, true, true, true, true, true, true, true, true, true, true, true, true, true, true, true, true, true, true, true, false, false, false]) (fuel := 3) (by kernel_rfl) rfl (by kernel_rfl) (by kernel_rfl) (fun K hK => ?_)
    go_simp
    go_at_call 84
    refine (eidle_1 gi r _ (sx.out.at_ gi 25 (stA r) (by repeat (first | (with_reducible exact List.mem_cons_self) | apply List.mem_cons_of_mem)))).mono ?_
    rintro e w58 ⟨v4, rfl, own, hb⟩
    obtain ⟨b4, c4, rfl, z8, z9⟩ := own_form own (by omega)
    clear z8 z9
    have sx2 := Lib.hid (sx.out.row hb own rfl)
    clear sx
    have sx := sx2
    clear sx2
    clear own hb
    first | (refine hK.out _ _ ?_ (fun hHeld => ?_)) | (go_wp2_with fail; refine hK.out _ _ ?_ (fun hHeld => ?_))
    · (try dsimp only); exact epl_cells (sx.out.at_ g 25 (stA r) (by repeat (first | (with_reducible exact List.mem_cons_self) | apply List.mem_cons_of_mem)))
    clear hK K
    try simp only [Act.put, List.setIfInBounds_toArray, List.set_cons_zero, List.set_cons_succ]
    refine rg_next (i := 21) (l := #[true, true, true, true, true, true, true, true, true, true, true, true, true, true, true, true, true, true, true, true, true, true, false, false]) (fuel := 2) (by kernel_rfl) rfl (by kernel_rfl) (by kernel_rfl) (fun K hK => ?_)
    go_simp
    skip
    first | (refine hK.out _ _ ?_ (fun hHeld => ?_)) | (go_wp2_with fail; refine hK.out _ _ ?_ (fun hHeld => ?_))
    · (try dsimp only); exact epl_cells ((sx.out.make 26 #[.slice (some ⟨b1, 0, none⟩) 2 c1, .slice (some ⟨b2, 0, none⟩) 3 c2, .slice (some ⟨b3, 0, none⟩) 2 c3, .slice (some ⟨b4, 0, none⟩) 1 c4]).at_ g 25 (stA r) (by repeat (first | (with_reducible exact List.mem_cons_self) | apply List.mem_cons_of_mem)))
    clear hK K
    try simp only [Act.put, List.setIfInBounds_toArray, List.set_cons_zero, List.set_cons_succ]
    have sx2 := Lib.hid (sx.out.make 26 #[.slice (some ⟨b1, 0, none⟩) 2 c1, .slice (some ⟨b2, 0, none⟩) 3 c2, .slice (some ⟨b3, 0, none⟩) 2 c3, .slice (some ⟨b4, 0, none⟩) 1 c4])
    clear sx
    obtain ⟨x21, hx21⟩ : ∃ x21, w58.heap.size = x21 := ⟨_, rfl⟩
    generalize World.alloc _ _ = w59 at sx2 hHeld ⊢
    first | rw [hx21] at sx2 ⊢ | (have e9 : w58.heap.size = x21 := hx21; simp only [World.drew] at e9 sx2 ⊢; rw [e9] at sx2 ⊢)
    have sx := sx2
    clear sx2 hx21
    refine rg_next (i := 22) (l := #[true, true, true, true, true, true, true, true, true, true, true, true, true, true, true, true, true, true, true, true, true, true, true, false]) (fuel := 1) (by kernel_rfl) rfl (by kernel_rfl) (by kernel_rfl) (fun K hK => ?_)
    go_simp
    go_at_call 48
    refine (etogether_any x21 4 4 w.heap.size [(.slice (some ⟨b1, 0, none⟩) 2 c1, rdSp 2 [r 5, r 5]), (.slice (some ⟨b2, 0, none⟩) 3 c2, puL k r [D0, D1, d2] 3), (.slice (some ⟨b3, 0, none⟩) 2 c3, rdSp 7 [A, A + 1]), (.slice (some ⟨b4, 0, none⟩) 1 c4, rdSp 2 [r 5])] rfl (by omega) (by omega) _ (sx.out.at_ x21 26 (#[.slice (some ⟨b1, 0, none⟩) 2 c1, .slice (some ⟨b2, 0, none⟩) 3 c2, .slice (some ⟨b3, 0, none⟩) 2 c3, .slice (some ⟨b4, 0, none⟩) 1 c4]) (by repeat (first | (with_reducible exact List.mem_cons_self) | apply List.mem_cons_of_mem))) (sx.out.four (by simp [rdSp]) (by rw [puL_len]; omega) (by simp [rdSp]) (by simp [rdSp])) (by rw [HPL.out]; simp [plL])).mono ?_
    rintro e w60 ⟨v5, rfl, own, hb⟩
    rw [HPL.out] at own
    have OWN := Lib.hid (own_mono2 own sx.out.1.size)
    have HB := Lib.hid (sx.out.1.trans (hb.mono sx.out.1.size))
    have sx2 := Lib.hid (sx.out.later hb)
    clear sx
    have sx := sx2
    clear sx2
    clear own hb
    first | (refine hK.out _ _ ?_ (fun hHeld => ?_)) | (go_wp2_with fail; refine hK.out _ _ ?_ (fun hHeld => ?_))
    · (try dsimp only); exact epl_cells (sx.out.at_ g 25 (stA r) (by repeat (first | (with_reducible exact List.mem_cons_self) | apply List.mem_cons_of_mem)))
    clear hK K
    try simp only [Act.put, List.setIfInBounds_toArray, List.set_cons_zero, List.set_cons_succ]
    refine rg_take (i := 23) (d := some 4) (l := #[true, true, true, true, true, true, true, true, true, true, true, true, true, true, true, true, true, true, true, true, true, true, true, true]) (fuel := 0) (v := ?_) rfl (by kernel_rfl) (by kernel_rfl) (by kernel_rfl) (by kernel_rfl) (by kernel_rfl) (fun _ _ _ h => h) (by kernel_rfl) ?_ (by assumption) ?_
    rotate_left 1
    · (intro wS hSw; (try dsimp only at hSw); go_simp; try with_reducible rfl)
    try simp only [Act.put, List.setIfInBounds_toArray, List.set_cons_zero, List.set_cons_succ]
    refine wpAnyH_done (by kernel_rfl) ?_ _
    go_wp2_with fail
    go_ret
    exact ⟨_, rfl, OWN.out, HB.out⟩
  exact AllReadyH.nil
end Go.Proofs.YtngfmofjonleeaaGreat
namespace Go.Proofs.YtngfmofjonleeaaGreat
open Go.RowKit
set_option linter.unusedVariables false
set_option linter.unusedSimpArgs false
set_option maxRecDepth 100000
set_option maxHeartbeats 8000000
theorem edo_no (b : Value) (k : Nat) (r : Nat → Int) (w : World) (hk : ¬ (1 ≤ k ∧ k ≤ 5)) : Calls Tryz.prog 18 #[b, .agg (stA r), .int .u8 k] w fun e w' => e = .returned (.agg (stA r)) ∧ Below w.heap.size w w' := by
  have h8 : (Tryz.prog.info? 25).map (·.size) = some (stA r).size := by rw [stA_size]; exact size_state
  have H8 := Lib.hid h8
  have hB0 : Below w.heap.size w ((w.alloc (.cells (stA r) 25)).alloc (.cells #[.int .u8 0, .int .u8 0, .int .u8 0, .int .u8 0, .int .u8 0, .int .u16 0, .int .u8 0, .int .u8 0, .int .u8 0, .int .u8 0, .int .u8 0, .int .u8 0, .int .u8 0, .int .u8 0, .int .u8 0, .bool false] 25)) := ((Below.refl _ w).alloc (Nat.le_refl _) _).alloc (by simp) _
  have k0 : Blk ((w.alloc (.cells (stA r) 25)).alloc (.cells #[.int .u8 0, .int .u8 0, .int .u8 0, .int .u8 0, .int .u8 0, .int .u16 0, .int .u8 0, .int .u8 0, .int .u8 0, .int .u8 0, .int .u8 0, .int .u8 0, .int .u8 0, .int .u8 0, .int .u8 0, .bool false] 25)) w.heap.size 25 (stA r) := (Blk.new w _ _).alloc _
  have k1 : Blk ((w.alloc (.cells (stA r) 25)).alloc (.cells #[.int .u8 0, .int .u8 0, .int .u8 0, .int .u8 0, .int .u8 0, .int .u16 0, .int .u8 0, .int .u8 0, .int .u8 0, .int .u8 0, .int .u8 0, .int .u8 0, .int .u8 0, .int .u8 0, .int .u8 0, .bool false] 25)) (w.heap.size + 1) 25 #[.int .u8 0, .int .u8 0, .int .u8 0, .int .u8 0, .int .u8 0, .int .u16 0, .int .u8 0, .int .u8 0, .int .u8 0, .int .u8 0, .int .u8 0, .int .u8 0, .int .u8 0, .int .u8 0, .int .u8 0, .bool false] := by
    have := Blk.new (w.alloc (.cells (stA r) 25)) 25 #[.int .u8 0, .int .u8 0, .int .u8 0, .int .u8 0, .int .u8 0, .int .u16 0, .int .u8 0, .int .u8 0, .int .u8 0, .int .u8 0, .int .u8 0, .int .u8 0, .int .u8 0, .int .u8 0, .int .u8 0, .bool false]
    simpa using this
  have HB0 := Lib.hid hB0
  have K0 := Lib.hid k0
  have K1 := Lib.hid k1
  clear h8 hB0 k0 k1
  go_enter Tryz.func18, Tryz.ntmps18
  go_upto_region 1 with fail
  generalize ((w.alloc (.cells (stA r) 25)).alloc (.cells #[.int .u8 0, .int .u8 0, .int .u8 0, .int .u8 0, .int .u8 0, .int .u16 0, .int .u8 0, .int .u8 0, .int .u8 0, .int .u8 0, .int .u8 0, .int .u8 0, .int .u8 0, .int .u8 0, .int .u8 0, .bool false] 25)) = w1 at *
  have kk0 := K0.out
  go_upto_region 2 with (first
    | (refine wpList_load_row rfl 25 (.tmp 4) rfl w.heap.size (by rfl) 25 (stA r) (0, 0) _ kk0 Tryz.underlying25 rfl H8.out ?_)
    | (go_at_call 15; refine (eplan_no k r hk _).mono ?_; rintro e w2 ⟨rfl, hb⟩))
  have K2 := Lib.hid (K0.out.below hb K0.out.lt)
  have K3 := Lib.hid (K1.out.below hb K1.out.lt)
  have HB2 := Lib.hid (HB0.out.trans (hb.mono HB0.out.size))
  clear kk0 hb K0 K1 HB0
  have kk2 := K2.out
  have hst := K3.out.run_store (P := Tryz.prog) (stA r) rfl (stA_one _)
  have HD := Lib.hid ((K3.out.row (stA r)).run_load (P := Tryz.prog) Tryz.underlying25 rfl size_state)
  have B5 := Lib.hid (below_setRow HB2.out (show w.heap.size ≤ w.heap.size + 1 by omega) (stA r))
  have hsR := stA_size r
  go_wp2_with (refine wpList_load_row rfl 25 (.tmp 4) rfl w.heap.size (by rfl) 25 (stA r) (0, 0) _ kk2 Tryz.underlying25 rfl H8.out ?_)
  (try simp only [Exit.inBlock, Exit.then])
  refine bodyPost_ret (results_cell (a := ⟨w.heap.size + 1, 0, none⟩) Tryz.results18 (by rfl) HD.out) rfl ?_
  exact ⟨rfl, B5.out⟩
end Go.Proofs.YtngfmofjonleeaaGreat
namespace Go.Proofs.YtngfmofjonleeaaGreat
open Go.RowKit
set_option linter.unusedVariables false
set_option linter.unusedSimpArgs false
set_option maxRecDepth 100000
set_option maxHeartbeats 16000000
theorem est_pages (r : Nat → Int) (W : World) : (Op.equalIn 9999 23 (.agg #[.int .u8 (r 6), .int .u8 (r 7), .int .u8 (r 8), .int .u8 (r 9), .int .u8 (r 10), .int .u8 (r 11), .int .u8 (r 12), .int .u8 (r 13)]) (.agg #[.int .u8 (r 6), .int .u8 (r 7), .int .u8 (r 8), .int .u8 (r 9), .int .u8 (r 10), .int .u8 (r 11), .int .u8 (r 12), .int .u8 (r 13)])).run Tryz.prog W = .ok true W := by
  have h := run_eql_ints (n := 8) Tryz.underlying23 Tryz.underlying5 (by kernel_rfl) (by kernel_rfl) 9997 (fun j => r (6 + j)) (fun j => r (6 + j)) W
  have e : ((List.range 8).all fun i => r (6 + i) == r (6 + i)) = true := by simp
  rw [e] at h
  exact h
theorem est_eql_same (r : Nat → Int) (W : World) : (binOp .eql 25 (.agg (stA r)) (.agg (stA r))).run Tryz.prog W = .ok (.bool true) W := by
  have hp := est_pages r
  rw [run_eql_struct, run_equalIn_struct]
  · unfold stA
    go_simp
    done
  · kernel_rfl
  · kernel_rfl
theorem eexec_eql {o : Oper} {ρ : Operand → Value} {w : World} {x y : Operand} (r : Nat → Int) (ho : o.op = .binOp .eql 25 x y 25) (hx : ρ x = .agg (stA r)) (hy : ρ y = .agg (stA r)) : (execOp ρ o).run Tryz.prog w = .ok (.value (.bool true)) w := by
  have hg : (eqGuard .eql 25 x y (.agg (stA r)) (.agg (stA r))).run Tryz.prog w = .ok () w := run_eqGuard_agg w .eql 25 x y _ _ (by kernel_rfl)
  have he := est_eql_same r w
  unfold execOp
  simp only [ho, hx, hy, Sem.run_bind, hg, he, Result.andThen_ok, Sem.run_pure]
theorem erow_load {o : Oper} {ρ : Operand → Value} {w : World} {x : Operand} {g : Nat} (r : Nat → Int) (ho : o.op = .load 25 x) (hx : ρ x = .pointer (some ⟨g, 0, none⟩)) (h : Blk w g 25 (stA r)) : (execOp ρ o).run Tryz.prog w = .ok (.value (.agg (stA r))) w :=
  exec_load_row 25 x ho g hx 25 (stA r) (0, 0) _ h Tryz.underlying25 rfl (by rw [stA_size]; exact size_state)
def lvA : Nat → Int := fun i => if i = 3 then 255 else if i = 4 then 32 else if i = 5 then 4660 else 0
def lvB : Nat → Int := fun i => if i = 13 then 5 else if i = 15 then 1 else 0
def lvX : Nat → Int := fun i => if i = 3 then 253 else if i = 4 then 4 else if i = 5 then 57344 else 0
def lvG : Nat → Int := fun i => if i = 4 then 4 else 0
theorem lvA_lit : stA lvA = #[.int .u8 0, .int .u8 0, .int .u8 0, .int .u8 255, .int .u8 32, .int .u16 4660, .int .u8 0, .int .u8 0, .int .u8 0, .int .u8 0, .int .u8 0, .int .u8 0, .int .u8 0, .int .u8 0, .int .u8 0, .bool false] := by kernel_rfl
theorem lvX_ent : stA (entP ((1 : Nat) : Int) lvB 57344) = stA lvX := by kernel_rfl
theorem eafter_live (w : World) : Calls Tryz.prog 16 #[.int .u8 1, .agg (stA lvB), .int .u16 57344] w fun e w' => e = .returned (.agg (stA lvX)) ∧ Below w.heap.size w w' := by
  have h := eafter_any 1 lvB 57344 w
  rw [lvX_ent] at h
  exact h
theorem lvA_ok : StOk lvA := by
  intro i hi
  unfold lvA
  have : i = 0 ∨ i = 1 ∨ i = 2 ∨ i = 3 ∨ i = 4 ∨ i = 5 ∨ i = 6 ∨ i = 7 ∨ i = 8 ∨ i = 9 ∨ i = 10 ∨ i = 11 ∨ i = 12 ∨ i = 13 ∨ i = 14 ∨ i = 15 := by omega
  rcases this with rfl | rfl | rfl | rfl | rfl | rfl | rfl | rfl | rfl | rfl | rfl | rfl | rfl | rfl | rfl | rfl <;> decide
/-- What is told of. -/
def LV (w : World) (ga gb b : Nat) : Prop :=
  (Blk w ga 25 (stA lvA) ∧ Blk w gb 25 (stA lvX)) ∧ w.cell? ⟨b, 8, none⟩ = some (.int .u8 5) ∧ w.cell? ⟨b, 9, none⟩ = some (.int .u16 8703) ∧ w.cell? ⟨b, 10, none⟩ = some (.bool true) ∧ w.cell? ⟨b, 11, none⟩ = some (.int .u8 18) ∧ w.cell? ⟨b, 19, none⟩ = some (.int .u8 0) ∧ w.cell? ⟨b, 21, none⟩ = some (.int .u16 65528) ∧ b < w.heap.size
theorem LV.later {w w' : World} {ga gb b : Nat} (h : LV w ga gb b) (hb : Below w.heap.size w w') : LV w' ga gb b := by
  obtain ⟨⟨h1, h2⟩, c1, c2, c3, c4, c5, c6, hl⟩ := h
  exact ⟨⟨h1.below hb h1.lt, h2.below hb h2.lt⟩, (hb.cell (p := ⟨b, 8, none⟩) hl).trans c1, (hb.cell (p := ⟨b, 9, none⟩) hl).trans c2, (hb.cell (p := ⟨b, 10, none⟩) hl).trans c3, (hb.cell (p := ⟨b, 11, none⟩) hl).trans c4, (hb.cell (p := ⟨b, 19, none⟩) hl).trans c5, (hb.cell (p := ⟨b, 21, none⟩) hl).trans c6, Nat.lt_of_lt_of_le hl hb.size⟩
theorem LV.of {w : World} {ga gb b base c : Nat} (h1 : Blk w ga 25 (stA lvA)) (h2 : Blk w gb 25 (stA lvX)) (own : w.ownsRow base 46 4 (.slice (some ⟨b, 0, none⟩) 8 c) 8 (spL (plL 4 lvA (flS (flS (lvA 4) 32 false) 16 false)))) : LV w ga gb b := by
  have hc := own.cells (g := b) rfl
  exact ⟨⟨h1, h2⟩, hc 8 (.int .u8 5) (by kernel_rfl), hc 9 (.int .u16 8703) (by kernel_rfl), hc 10 (.bool true) (by kernel_rfl), hc 11 (.int .u8 18) (by kernel_rfl), hc 19 (.int .u8 0) (by kernel_rfl), hc 21 (.int .u16 65528) (by kernel_rfl), (own.lt b rfl).2⟩
theorem live27_any (w : World) : Calls Tryz.prog 4 #[] w fun e w' => e = .returned (.bool true) ∧ Below w.heap.size w w' := by
  have K0 : Hid (Blk (w.alloc (.cells #[.int .u8 0, .int .u8 0, .int .u8 0, .int .u8 0, .int .u8 0, .int .u16 0, .int .u8 0, .int .u8 0, .int .u8 0, .int .u8 0, .int .u8 0, .int .u8 0, .int .u8 0, .int .u8 0, .int .u8 0, .bool false] 25)) w.heap.size 25 #[.int .u8 0, .int .u8 0, .int .u8 0, .int .u8 0, .int .u8 0, .int .u16 0, .int .u8 0, .int .u8 0, .int .u8 0, .int .u8 0, .int .u8 0, .int .u8 0, .int .u8 0, .int .u8 0, .int .u8 0, .bool false]) := Lib.hid (Blk.new w _ _)
  have HB0 : Hid (Below w.heap.size w (w.alloc (.cells #[.int .u8 0, .int .u8 0, .int .u8 0, .int .u8 0, .int .u8 0, .int .u16 0, .int .u8 0, .int .u8 0, .int .u8 0, .int .u8 0, .int .u8 0, .int .u8 0, .int .u8 0, .int .u8 0, .int .u8 0, .bool false] 25))) := Lib.hid ((Below.refl _ w).alloc (Nat.le_refl _) _)
  obtain ⟨ga, hga⟩ : ∃ ga, w.heap.size = ga := ⟨_, rfl⟩
  obtain ⟨w1, hw1⟩ : ∃ w1, w.alloc (.cells #[.int .u8 0, .int .u8 0, .int .u8 0, .int .u8 0, .int .u8 0, .int .u16 0, .int .u8 0, .int .u8 0, .int .u8 0, .int .u8 0, .int .u8 0, .int .u8 0, .int .u8 0, .int .u8 0, .int .u8 0, .bool false] 25) = w1 := ⟨_, rfl⟩
  rw [hw1] at K0 HB0
  have K1 : Hid (Blk w1 ga 25 #[.int .u8 0, .int .u8 0, .int .u8 0, .int .u8 0, .int .u8 0, .int .u16 0, .int .u8 0, .int .u8 0, .int .u8 0, .int .u8 0, .int .u8 0, .int .u8 0, .int .u8 0, .int .u8 0, .int .u8 0, .bool false]) := Lib.hid (hga ▸ K0.out)
  have HW1 := Lib.hid hw1
  have HGA := Lib.hid hga
  clear hw1 hga K0
  have c0 : w1.cell? ⟨ga, 0, none⟩ = some (.int .u8 0) := K1.out.cell 0
  have f0 : w1.frozen? ⟨ga, 0, none⟩ = false := K1.out.frozen 0
  have c1 : w1.cell? ⟨ga, 1, none⟩ = some (.int .u8 0) := K1.out.cell 1
  have f1 : w1.frozen? ⟨ga, 1, none⟩ = false := K1.out.frozen 1
  have c2 : w1.cell? ⟨ga, 2, none⟩ = some (.int .u8 0) := K1.out.cell 2
  have f2 : w1.frozen? ⟨ga, 2, none⟩ = false := K1.out.frozen 2
  have c3 : w1.cell? ⟨ga, 3, none⟩ = some (.int .u8 0) := K1.out.cell 3
  have f3 : w1.frozen? ⟨ga, 3, none⟩ = false := K1.out.frozen 3
  have c4 : w1.cell? ⟨ga, 4, none⟩ = some (.int .u8 0) := K1.out.cell 4
  have f4 : w1.frozen? ⟨ga, 4, none⟩ = false := K1.out.frozen 4
  have c5 : w1.cell? ⟨ga, 5, none⟩ = some (.int .u16 0) := K1.out.cell 5
  have f5 : w1.frozen? ⟨ga, 5, none⟩ = false := K1.out.frozen 5
  have c6 : w1.cell? ⟨ga, 6, none⟩ = some (.int .u8 0) := K1.out.cell 6
  have f6 : w1.frozen? ⟨ga, 6, none⟩ = false := K1.out.frozen 6
  have c7 : w1.cell? ⟨ga, 7, none⟩ = some (.int .u8 0) := K1.out.cell 7
  have f7 : w1.frozen? ⟨ga, 7, none⟩ = false := K1.out.frozen 7
  have c8 : w1.cell? ⟨ga, 8, none⟩ = some (.int .u8 0) := K1.out.cell 8
  have f8 : w1.frozen? ⟨ga, 8, none⟩ = false := K1.out.frozen 8
  have c9 : w1.cell? ⟨ga, 9, none⟩ = some (.int .u8 0) := K1.out.cell 9
  have f9 : w1.frozen? ⟨ga, 9, none⟩ = false := K1.out.frozen 9
  have c10 : w1.cell? ⟨ga, 10, none⟩ = some (.int .u8 0) := K1.out.cell 10
  have f10 : w1.frozen? ⟨ga, 10, none⟩ = false := K1.out.frozen 10
  have c11 : w1.cell? ⟨ga, 11, none⟩ = some (.int .u8 0) := K1.out.cell 11
  have f11 : w1.frozen? ⟨ga, 11, none⟩ = false := K1.out.frozen 11
  have c12 : w1.cell? ⟨ga, 12, none⟩ = some (.int .u8 0) := K1.out.cell 12
  have f12 : w1.frozen? ⟨ga, 12, none⟩ = false := K1.out.frozen 12
  have c13 : w1.cell? ⟨ga, 13, none⟩ = some (.int .u8 0) := K1.out.cell 13
  have f13 : w1.frozen? ⟨ga, 13, none⟩ = false := K1.out.frozen 13
  have c14 : w1.cell? ⟨ga, 14, none⟩ = some (.int .u8 0) := K1.out.cell 14
  have f14 : w1.frozen? ⟨ga, 14, none⟩ = false := K1.out.frozen 14
  have c15 : w1.cell? ⟨ga, 15, none⟩ = some (.bool false) := K1.out.cell 15
  have f15 : w1.frozen? ⟨ga, 15, none⟩ = false := K1.out.frozen 15
  have hle : w.heap.size ≤ ga := by rw [HGA.out]; exact Nat.le_refl _
  have HK : Hid (Blk ((((((((((((((((w1.setCell ⟨ga, 0, none⟩ (.int .u8 0)).setCell ⟨ga, 1, none⟩ (.int .u8 0)).setCell ⟨ga, 2, none⟩ (.int .u8 0)).setCell ⟨ga, 3, none⟩ (.int .u8 255)).setCell ⟨ga, 4, none⟩ (.int .u8 32)).setCell ⟨ga, 5, none⟩ (.int .u16 4660)).setCell ⟨ga, 6, none⟩ (.int .u8 0)).setCell ⟨ga, 7, none⟩ (.int .u8 0)).setCell ⟨ga, 8, none⟩ (.int .u8 0)).setCell ⟨ga, 9, none⟩ (.int .u8 0)).setCell ⟨ga, 10, none⟩ (.int .u8 0)).setCell ⟨ga, 11, none⟩ (.int .u8 0)).setCell ⟨ga, 12, none⟩ (.int .u8 0)).setCell ⟨ga, 13, none⟩ (.int .u8 0)).setCell ⟨ga, 14, none⟩ (.int .u8 0)).setCell ⟨ga, 15, none⟩ (.bool false)) ga 25 #[.int .u8 0, .int .u8 0, .int .u8 0, .int .u8 255, .int .u8 32, .int .u16 4660, .int .u8 0, .int .u8 0, .int .u8 0, .int .u8 0, .int .u8 0, .int .u8 0, .int .u8 0, .int .u8 0, .int .u8 0, .bool false]) := Lib.hid ((((((((((((((((K1.out.set_ 0 (.int .u8 0)).set_ 1 (.int .u8 0)).set_ 2 (.int .u8 0)).set_ 3 (.int .u8 255)).set_ 4 (.int .u8 32)).set_ 5 (.int .u16 4660)).set_ 6 (.int .u8 0)).set_ 7 (.int .u8 0)).set_ 8 (.int .u8 0)).set_ 9 (.int .u8 0)).set_ 10 (.int .u8 0)).set_ 11 (.int .u8 0)).set_ 12 (.int .u8 0)).set_ 13 (.int .u8 0)).set_ 14 (.int .u8 0)).set_ 15 (.bool false))
  have HB1 : Hid (Below w.heap.size w ((((((((((((((((w1.setCell ⟨ga, 0, none⟩ (.int .u8 0)).setCell ⟨ga, 1, none⟩ (.int .u8 0)).setCell ⟨ga, 2, none⟩ (.int .u8 0)).setCell ⟨ga, 3, none⟩ (.int .u8 255)).setCell ⟨ga, 4, none⟩ (.int .u8 32)).setCell ⟨ga, 5, none⟩ (.int .u16 4660)).setCell ⟨ga, 6, none⟩ (.int .u8 0)).setCell ⟨ga, 7, none⟩ (.int .u8 0)).setCell ⟨ga, 8, none⟩ (.int .u8 0)).setCell ⟨ga, 9, none⟩ (.int .u8 0)).setCell ⟨ga, 10, none⟩ (.int .u8 0)).setCell ⟨ga, 11, none⟩ (.int .u8 0)).setCell ⟨ga, 12, none⟩ (.int .u8 0)).setCell ⟨ga, 13, none⟩ (.int .u8 0)).setCell ⟨ga, 14, none⟩ (.int .u8 0)).setCell ⟨ga, 15, none⟩ (.bool false))) := Lib.hid ((((((((((((((((HB0.out.setCell (p := ⟨ga, 0, none⟩) hle (.int .u8 0)).setCell (p := ⟨ga, 1, none⟩) hle (.int .u8 0)).setCell (p := ⟨ga, 2, none⟩) hle (.int .u8 0)).setCell (p := ⟨ga, 3, none⟩) hle (.int .u8 255)).setCell (p := ⟨ga, 4, none⟩) hle (.int .u8 32)).setCell (p := ⟨ga, 5, none⟩) hle (.int .u16 4660)).setCell (p := ⟨ga, 6, none⟩) hle (.int .u8 0)).setCell (p := ⟨ga, 7, none⟩) hle (.int .u8 0)).setCell (p := ⟨ga, 8, none⟩) hle (.int .u8 0)).setCell (p := ⟨ga, 9, none⟩) hle (.int .u8 0)).setCell (p := ⟨ga, 10, none⟩) hle (.int .u8 0)).setCell (p := ⟨ga, 11, none⟩) hle (.int .u8 0)).setCell (p := ⟨ga, 12, none⟩) hle (.int .u8 0)).setCell (p := ⟨ga, 13, none⟩) hle (.int .u8 0)).setCell (p := ⟨ga, 14, none⟩) hle (.int .u8 0)).setCell (p := ⟨ga, 15, none⟩) hle (.bool false))
  clear hle HB0 K1
  go_enter Tryz.func4, Tryz.ntmps4
  go_upto_region 1 with fail
  go_upto_region 2 with (rw [HW1.out, HGA.out])
  obtain ⟨wS, hwS⟩ : ∃ wS, ((((((((((((((((w1.setCell ⟨ga, 0, none⟩ (.int .u8 0)).setCell ⟨ga, 1, none⟩ (.int .u8 0)).setCell ⟨ga, 2, none⟩ (.int .u8 0)).setCell ⟨ga, 3, none⟩ (.int .u8 255)).setCell ⟨ga, 4, none⟩ (.int .u8 32)).setCell ⟨ga, 5, none⟩ (.int .u16 4660)).setCell ⟨ga, 6, none⟩ (.int .u8 0)).setCell ⟨ga, 7, none⟩ (.int .u8 0)).setCell ⟨ga, 8, none⟩ (.int .u8 0)).setCell ⟨ga, 9, none⟩ (.int .u8 0)).setCell ⟨ga, 10, none⟩ (.int .u8 0)).setCell ⟨ga, 11, none⟩ (.int .u8 0)).setCell ⟨ga, 12, none⟩ (.int .u8 0)).setCell ⟨ga, 13, none⟩ (.int .u8 0)).setCell ⟨ga, 14, none⟩ (.int .u8 0)).setCell ⟨ga, 15, none⟩ (.bool false)) = wS := ⟨_, rfl⟩
  rw [hwS] at HK HB1 ⊢
  clear hwS HW1 HGA c0 f0 c1 f1 c2 f2 c3 f3 c4 f4 c5 f5 c6 f6 c7 f7 c8 f8 c9 f9 c10 f10 c11 f11 c12 f12 c13 f13 c14 f14 c15 f15
  have kA : Blk wS ga 25 (stA lvA) := by rw [lvA_lit]; exact HK.out
  have h8 : ∀ r, (Tryz.prog.info? 25).map (·.size) = some (stA r).size := fun r => by rw [stA_size]; exact size_state
  have H8 := Lib.hid h8
  clear h8 HK
  go_upto_region 3 with (first
    | (refine wpList_load_row rfl 25 (.tmp 1) rfl ga (by rfl) 25 (stA lvA) (0, 0) _ kA Tryz.underlying25 rfl (H8.out lvA) ?_)
    | (go_at_call 15; refine (eplan_yes 4 lvA lvA_ok (by decide) _).mono ?_; rintro e wP ⟨v, rfl, own, hb⟩))
  obtain ⟨b, c, rfl, z1, z2⟩ := own_form own (by omega)
  have KA := Lib.hid (kA.below hb kA.lt)
  have HB2 := Lib.hid (HB1.out.trans (hb.mono HB1.out.size))
  have OWN := Lib.hid own
  clear own hb kA z1 z2 HB1
  go_wp2_with (go_at_call 16; refine (eafter_live _).mono ?_; rintro e wQ ⟨rfl, hb⟩)
  have hst := (Blk.new wQ 25 #[.int .u8 0, .int .u8 0, .int .u8 0, .int .u8 0, .int .u8 0, .int .u16 0, .int .u8 0, .int .u8 0, .int .u8 0, .int .u8 0, .int .u8 0, .int .u8 0, .int .u8 0, .int .u8 0, .int .u8 0, .bool false]).run_store (P := Tryz.prog) (stA lvX) rfl (stA_one _)
  have KX := Lib.hid ((Blk.new wQ 25 #[.int .u8 0, .int .u8 0, .int .u8 0, .int .u8 0, .int .u8 0, .int .u16 0, .int .u8 0, .int .u8 0, .int .u8 0, .int .u8 0, .int .u8 0, .int .u8 0, .int .u8 0, .int .u8 0, .int .u8 0, .bool false]).row (stA lvX))
  have KA2 := Lib.hid ((KA.out.below hb KA.out.lt).alloc (.cells #[.int .u8 0, .int .u8 0, .int .u8 0, .int .u8 0, .int .u8 0, .int .u16 0, .int .u8 0, .int .u8 0, .int .u8 0, .int .u8 0, .int .u8 0, .int .u8 0, .int .u8 0, .int .u8 0, .int .u8 0, .bool false] 25))
  have zq : w.heap.size ≤ wQ.heap.size := Nat.le_trans HB2.out.size hb.size
  have HB3 := Lib.hid (below_setRow ((HB2.out.trans (hb.mono HB2.out.size)).alloc zq (.cells #[.int .u8 0, .int .u8 0, .int .u8 0, .int .u8 0, .int .u8 0, .int .u16 0, .int .u8 0, .int .u8 0, .int .u8 0, .int .u8 0, .int .u8 0, .int .u8 0, .int .u8 0, .int .u8 0, .int .u8 0, .bool false] 25)) zq (stA lvX))
  have OWN2 := Lib.hid (own_belowG OWN.out hb)
  have hbq := hb
  clear hb zq
  rw [hst]
  clear hst
  go_upto_region 4 with fail
  have HB34 := Lib.hid (below_setRow ((Below.refl _ wQ).alloc (Nat.le_refl _) (.cells #[.int .u8 0, .int .u8 0, .int .u8 0, .int .u8 0, .int .u8 0, .int .u16 0, .int .u8 0, .int .u8 0, .int .u8 0, .int .u8 0, .int .u8 0, .int .u8 0, .int .u8 0, .int .u8 0, .int .u8 0, .bool false] 25)) (Nat.le_refl _) (stA lvX))
  have KA3 := Lib.hid ((KA.out.below hbq KA.out.lt).below HB34.out (KA.out.below hbq KA.out.lt).lt)
  have HL := Lib.hid (LV.of KA3.out KX.out (own_belowG OWN2.out HB34.out))
  obtain ⟨w4, hw4⟩ : ∃ w4, (wQ.alloc (.cells #[.int .u8 0, .int .u8 0, .int .u8 0, .int .u8 0, .int .u8 0, .int .u16 0, .int .u8 0, .int .u8 0, .int .u8 0, .int .u8 0, .int .u8 0, .int .u8 0, .int .u8 0, .int .u8 0, .int .u8 0, .bool false] 25)).setRow wQ.heap.size (stA lvX) = w4 := ⟨_, rfl⟩
  rw [hw4] at HL HB3 ⊢
  obtain ⟨gb, hgb⟩ : ∃ gb, wQ.heap.size = gb := ⟨_, rfl⟩
  rw [hgb] at HL ⊢
  clear KA KA2 KA3 KX OWN OWN2 HB34 HB2 hw4 hgb hbq
  refine rg_begin (S := fun w' => (Blk w' ga 25 (stA lvA) ∧ Blk w' gb 25 (stA lvX)) ∧ w'.cell? ⟨b, 8, none⟩ = some (.int .u8 5) ∧ w'.cell? ⟨b, 9, none⟩ = some (.int .u16 8703) ∧ w'.cell? ⟨b, 10, none⟩ = some (.bool true) ∧ w'.cell? ⟨b, 11, none⟩ = some (.int .u8 18) ∧ w'.cell? ⟨b, 19, none⟩ = some (.int .u8 0) ∧ w'.cell? ⟨b, 21, none⟩ = some (.int .u16 65528) ∧ b < w'.heap.size) 47 #[false, false, false, false, false, false, false, false, false, false, false, false, false, false, false, false, false, false, false, false, false, false, false, false, false, false, false, false, false, false, false, false, false, false, false, false, false, false, false, false, false, false, false, false, false, false, false] (by kernel_rfl) (by kernel_rfl) (by kernel_rfl) ?_ (fun hHeld => ?_)
  · exact HL.out.later (Below.refl _ w4).drew
  have HLD := Lib.hid (HL.out.later (Below.refl _ w4).drew)
  have HBD := Lib.hid HB3.out.drew
  clear HL HB3
  generalize w4.drew = wD at HLD HBD hHeld ⊢
  refine rg_take (i := 0) (d := some 10) (l := #[true, false, false, false, false, false, false, false, false, false, false, false, false, false, false, false, false, false, false, false, false, false, false, false, false, false, false, false, false, false, false, false, false, false, false, false, false, false, false, false, false, false, false, false, false, false, false]) (fuel := 46) (v := ?_) rfl (by kernel_rfl) (by kernel_rfl) (by kernel_rfl) (by kernel_rfl) (by kernel_rfl) (fun _ _ _ h => h) (by kernel_rfl) ?_ (by assumption) ?_
  rotate_left 1
  · (intro wS hSw; (try dsimp only at hSw); go_simp; try with_reducible rfl)
  try simp only [Act.put, List.setIfInBounds_toArray, List.set_cons_zero, List.set_cons_succ]
  refine rg_take (i := 1) (d := some 11) (l := #[true, true, false, false, false, false, false, false, false, false, false, false, false, false, false, false, false, false, false, false, false, false, false, false, false, false, false, false, false, false, false, false, false, false, false, false, false, false, false, false, false, false, false, false, false, false, false]) (fuel := 45) (v := ?_) rfl (by kernel_rfl) (by kernel_rfl) (by kernel_rfl) (by kernel_rfl) (by kernel_rfl) (fun _ _ _ h => h) (by kernel_rfl) ?_ (by assumption) ?_
  rotate_left 1
  · (intro wS hSw; (try dsimp only at hSw); go_simp; try with_reducible rfl)
  try simp only [Act.put, List.setIfInBounds_toArray, List.set_cons_zero, List.set_cons_succ]
  refine rg_take (i := 2) (d := some 12) (l := #[true, true, true, false, false, false, false, false, false, false, false, false, false, false, false, false, false, false, false, false, false, false, false, false, false, false, false, false, false, false, false, false, false, false, false, false, false, false, false, false, false, false, false, false, false, false, false]) (fuel := 44) (v := ?_) rfl (by kernel_rfl) (by kernel_rfl) (by kernel_rfl) (by kernel_rfl) (by kernel_rfl) (fun _ _ _ h => h) (by kernel_rfl) ?_ (by assumption) ?_
  rotate_left 1
  · (intro wS hSw; (try dsimp only at hSw); go_simp; try with_reducible rfl)
  try simp only [Act.put, List.setIfInBounds_toArray, List.set_cons_zero, List.set_cons_succ]
  refine rg_take (i := 3) (d := some 13) (l := #[true, true, true, true, false, false, false, false, false, false, false, false, false, false, false, false, false, false, false, false, false, false, false, false, false, false, false, false, false, false, false, false, false, false, false, false, false, false, false, false, false, false, false, false, false, false, false]) (fuel := 43) (v := ?_) rfl (by kernel_rfl) (by kernel_rfl) (by kernel_rfl) (by kernel_rfl) (by kernel_rfl) (fun _ _ _ h => h) (by kernel_rfl) ?_ (by assumption) ?_
  rotate_left 1
  · (intro wS hSw; (try dsimp only at hSw); go_simp; try with_reducible rfl)
  try simp only [Act.put, List.setIfInBounds_toArray, List.set_cons_zero, List.set_cons_succ]
  refine rg_take (i := 4) (d := some 14) (l := #[true, true, true, true, true, false, false, false, false, false, false, false, false, false, false, false, false, false, false, false, false, false, false, false, false, false, false, false, false, false, false, false, false, false, false, false, false, false, false, false, false, false, false, false, false, false, false]) (fuel := 42) (v := ?_) rfl (by kernel_rfl) (by kernel_rfl) (by kernel_rfl) (by kernel_rfl) (by kernel_rfl) (fun _ _ _ h => h) (by kernel_rfl) ?_ (by assumption) ?_
  rotate_left 1
  · (intro wS hSw; (try dsimp only at hSw); go_simp; try with_reducible rfl)
  try simp only [Act.put, List.setIfInBounds_toArray, List.set_cons_zero, List.set_cons_succ]
  refine rg_take (i := 5) (d := some 15) (l := #[true, true, true, true, true, true, false, false, false, false, false, false, false, false, false, false, false, false, false, false, false, false, false, false, false, false, false, false, false, false, false, false, false, false, false, false, false, false, false, false, false, false, false, false, false, false, false]) (fuel := 41) (v := ?_) rfl (by kernel_rfl) (by kernel_rfl) (by kernel_rfl) (by kernel_rfl) (by kernel_rfl) (fun _ _ _ h => h) (by kernel_rfl) ?_ (by assumption) ?_
  rotate_left 1
  · (intro wS hSw; (try dsimp only at hSw); go_simp; try with_reducible rfl)
  try simp only [Act.put, List.setIfInBounds_toArray, List.set_cons_zero, List.set_cons_succ]
  refine rg_take (i := 6) (d := some 16) (l := #[true, true, true, true, true, true, true, false, false, false, false, false, false, false, false, false, false, false, false, false, false, false, false, false, false, false, false, false, false, false, false, false, false, false, false, false, false, false, false, false, false, false, false, false, false, false, false]) (fuel := 40) (v := ?_) rfl (by kernel_rfl) (by kernel_rfl) (by kernel_rfl) (by kernel_rfl) (by kernel_rfl) (fun _ _ _ h => h) (by kernel_rfl) ?_ (by assumption) ?_
  rotate_left 1
  · (intro wS hSw; (try dsimp only at hSw); go_simp; try with_reducible rfl)
  try simp only [Act.put, List.setIfInBounds_toArray, List.set_cons_zero, List.set_cons_succ]
  refine rg_take (i := 7) (d := some 17) (l := #[true, true, true, true, true, true, true, true, false, false, false, false, false, false, false, false, false, false, false, false, false, false, false, false, false, false, false, false, false, false, false, false, false, false, false, false, false, false, false, false, false, false, false, false, false, false, false]) (fuel := 39) (v := ?_) rfl (by kernel_rfl) (by kernel_rfl) (by kernel_rfl) (by kernel_rfl) (by kernel_rfl) (fun _ _ _ h => h) (by kernel_rfl) ?_ (by assumption) ?_
  rotate_left 1
  · (intro wS hSw; (try dsimp only at hSw); go_simp; try with_reducible rfl)
  try simp only [Act.put, List.setIfInBounds_toArray, List.set_cons_zero, List.set_cons_succ]
  refine rg_take (i := 8) (d := some 18) (l := #[true, true, true, true, true, true, true, true, true, false, false, false, false, false, false, false, false, false, false, false, false, false, false, false, false, false, false, false, false, false, false, false, false, false, false, false, false, false, false, false, false, false, false, false, false, false, false]) (fuel := 38) (v := ?_) rfl (by kernel_rfl) (by kernel_rfl) (by kernel_rfl) (by kernel_rfl) (by kernel_rfl) (fun _ _ _ h => h) (by kernel_rfl) ?_ (by assumption) ?_
  rotate_left 1
  · (intro wS hSw; (try dsimp only at hSw); go_simp; try with_reducible rfl)
  try simp only [Act.put, List.setIfInBounds_toArray, List.set_cons_zero, List.set_cons_succ]
  refine rg_take (i := 9) (d := some 19) (l := #[true, true, true, true, true, true, true, true, true, true, false, false, false, false, false, false, false, false, false, false, false, false, false, false, false, false, false, false, false, false, false, false, false, false, false, false, false, false, false, false, false, false, false, false, false, false, false]) (fuel := 37) (v := ?_) rfl (by kernel_rfl) (by kernel_rfl) (by kernel_rfl) (by kernel_rfl) (by kernel_rfl) (fun _ _ _ h => h) (by kernel_rfl) ?_ (by assumption) ?_
  rotate_left 1
  · (intro wS hSw; (try dsimp only at hSw); go_simp; try with_reducible rfl)
  try simp only [Act.put, List.setIfInBounds_toArray, List.set_cons_zero, List.set_cons_succ]
  refine rg_take (i := 10) (d := some 20) (l := #[true, true, true, true, true, true, true, true, true, true, true, false, false, false, false, false, false, false, false, false, false, false, false, false, false, false, false, false, false, false, false, false, false, false, false, false, false, false, false, false, false, false, false, false, false, false, false]) (fuel := 36) (v := ?_) rfl (by kernel_rfl) (by kernel_rfl) (by kernel_rfl) (by kernel_rfl) (by kernel_rfl) (fun _ _ _ h => h) (by kernel_rfl) ?_ (by assumption) ?_
  rotate_left 1
  · (intro wS hSw; (try dsimp only at hSw); go_simp; try with_reducible rfl)
  try simp only [Act.put, List.setIfInBounds_toArray, List.set_cons_zero, List.set_cons_succ]
  refine rg_take (i := 11) (d := some 21) (l := #[true, true, true, true, true, true, true, true, true, true, true, true, false, false, false, false, false, false, false, false, false, false, false, false, false, false, false, false, false, false, false, false, false, false, false, false, false, false, false, false, false, false, false, false, false, false, false]) (fuel := 35) (v := ?_) rfl (by kernel_rfl) (by kernel_rfl) (by kernel_rfl) (by kernel_rfl) (by kernel_rfl) (fun _ _ _ h => h) (by kernel_rfl) ?_ (by assumption) ?_
  rotate_left 1
  · (intro wS hSw; (try dsimp only at hSw); go_simp; try with_reducible rfl)
  try simp only [Act.put, List.setIfInBounds_toArray, List.set_cons_zero, List.set_cons_succ]
  refine rg_take (i := 12) (d := some 22) (l := #[true, true, true, true, true, true, true, true, true, true, true, true, true, false, false, false, false, false, false, false, false, false, false, false, false, false, false, false, false, false, false, false, false, false, false, false, false, false, false, false, false, false, false, false, false, false, false]) (fuel := 34) (v := ?_) rfl (by kernel_rfl) (by kernel_rfl) (by kernel_rfl) (by kernel_rfl) (by kernel_rfl) (fun _ _ _ h => h) (by kernel_rfl) ?_ (by assumption) ?_
  rotate_left 1
  · (intro wS hSw; (try dsimp only at hSw); go_simp; try with_reducible rfl)
  try simp only [Act.put, List.setIfInBounds_toArray, List.set_cons_zero, List.set_cons_succ]
  refine rg_take (i := 13) (d := some 23) (l := #[true, true, true, true, true, true, true, true, true, true, true, true, true, true, false, false, false, false, false, false, false, false, false, false, false, false, false, false, false, false, false, false, false, false, false, false, false, false, false, false, false, false, false, false, false, false, false]) (fuel := 33) (v := ?_) rfl (by kernel_rfl) (by kernel_rfl) (by kernel_rfl) (by kernel_rfl) (by kernel_rfl) (fun _ _ _ h => h) (by kernel_rfl) ?_ (by assumption) ?_
  rotate_left 1
  · (intro wS hSw; (try dsimp only at hSw); go_simp; try with_reducible rfl)
  try simp only [Act.put, List.setIfInBounds_toArray, List.set_cons_zero, List.set_cons_succ]
  refine rg_take (i := 14) (d := some 24) (l := #[true, true, true, true, true, true, true, true, true, true, true, true, true, true, true, false, false, false, false, false, false, false, false, false, false, false, false, false, false, false, false, false, false, false, false, false, false, false, false, false, false, false, false, false, false, false, false]) (fuel := 32) (v := ?_) rfl (by kernel_rfl) (by kernel_rfl) (by kernel_rfl) (by kernel_rfl) (by kernel_rfl) (fun _ _ _ h => h) (by kernel_rfl) ?_ (by assumption) ?_
  rotate_left 1
  · (intro wS hSw; (try dsimp only at hSw); go_simp; try with_reducible rfl)
  try simp only [Act.put, List.setIfInBounds_toArray, List.set_cons_zero, List.set_cons_succ]
  refine rg_take (i := 15) (d := some 25) (l := #[true, true, true, true, true, true, true, true, true, true, true, true, true, true, true, true, false, false, false, false, false, false, false, false, false, false, false, false, false, false, false, false, false, false, false, false, false, false, false, false, false, false, false, false, false, false, false]) (fuel := 31) (v := ?_) rfl (by kernel_rfl) (by kernel_rfl) (by kernel_rfl) (by kernel_rfl) (by kernel_rfl) (fun _ _ _ h => h) (by kernel_rfl) ?_ (by assumption) ?_
  rotate_left 1
  · (intro wS hSw; (try dsimp only at hSw); go_simp; try with_reducible rfl)
  try simp only [Act.put, List.setIfInBounds_toArray, List.set_cons_zero, List.set_cons_succ]
  refine rg_take (i := 16) (d := some 26) (l := #[true, true, true, true, true, true, true, true, true, true, true, true, true, true, true, true, true, false, false, false, false, false, false, false, false, false, false, false, false, false, false, false, false, false, false, false, false, false, false, false, false, false, false, false, false, false, false]) (fuel := 30) (v := ?_) rfl (by kernel_rfl) (by kernel_rfl) (by kernel_rfl) (by kernel_rfl) (by kernel_rfl) (fun _ _ _ h => h) (by kernel_rfl) ?_ (by assumption) ?_
  rotate_left 1
  · (intro wS hSw; (try dsimp only at hSw); go_simp; try with_reducible rfl)
  try simp only [Act.put, List.setIfInBounds_toArray, List.set_cons_zero, List.set_cons_succ]
  refine rg_take (i := 17) (d := some 27) (l := #[true, true, true, true, true, true, true, true, true, true, true, true, true, true, true, true, true, true, false, false, false, false, false, false, false, false, false, false, false, false, false, false, false, false, false, false, false, false, false, false, false, false, false, false, false, false, false]) (fuel := 29) (v := ?_) rfl (by kernel_rfl) (by kernel_rfl) (by kernel_rfl) (by kernel_rfl) (by kernel_rfl) (fun _ _ _ h => h) (by kernel_rfl) ?_ (by assumption) ?_
  rotate_left 1
  · (intro wS hSw; (try dsimp only at hSw); go_simp; try with_reducible rfl)
  try simp only [Act.put, List.setIfInBounds_toArray, List.set_cons_zero, List.set_cons_succ]
  refine rg_take (i := 18) (d := some 28) (l := #[true, true, true, true, true, true, true, true, true, true, true, true, true, true, true, true, true, true, true, false, false, false, false, false, false, false, false, false, false, false, false, false, false, false, false, false, false, false, false, false, false, false, false, false, false, false, false]) (fuel := 28) (v := ?_) rfl (by kernel_rfl) (by kernel_rfl) (by kernel_rfl) (by kernel_rfl) (by kernel_rfl) (fun _ _ _ h => h) (by kernel_rfl) ?_ (by assumption) ?_
  rotate_left 1
  · (intro wS hSw; (try dsimp only at hSw); go_simp; try with_reducible rfl)
  try simp only [Act.put, List.setIfInBounds_toArray, List.set_cons_zero, List.set_cons_succ]
  refine rg_take (i := 19) (d := some 29) (l := #[true, true, true, true, true, true, true, true, true, true, true, true, true, true, true, true, true, true, true, true, false, false, false, false, false, false, false, false, false, false, false, false, false, false, false, false, false, false, false, false, false, false, false, false, false, false, false]) (fuel := 27) (v := ?_) rfl (by kernel_rfl) (by kernel_rfl) (by kernel_rfl) (by kernel_rfl) (by kernel_rfl) (fun _ _ _ h => h) (by kernel_rfl) ?_ (by assumption) ?_
  rotate_left 1
  · (intro wS hSw; (try dsimp only at hSw); go_simp; try with_reducible rfl)
  try simp only [Act.put, List.setIfInBounds_toArray, List.set_cons_zero, List.set_cons_succ]
  refine rg_take (i := 20) (d := some 30) (l := #[true, true, true, true, true, true, true, true, true, true, true, true, true, true, true, true, true, true, true, true, true, false, false, false, false, false, false, false, false, false, false, false, false, false, false, false, false, false, false, false, false, false, false, false, false, false, false]) (fuel := 26) (v := ?_) rfl (by kernel_rfl) (by kernel_rfl) (by kernel_rfl) (by kernel_rfl) (by kernel_rfl) (fun _ _ _ h => h) (by kernel_rfl) ?_ (by assumption) ?_
  rotate_left 1
  · (intro wS hSw; (try dsimp only at hSw); go_simp; try with_reducible rfl)
  try simp only [Act.put, List.setIfInBounds_toArray, List.set_cons_zero, List.set_cons_succ]
  refine rg_take (i := 21) (d := some 31) (l := #[true, true, true, true, true, true, true, true, true, true, true, true, true, true, true, true, true, true, true, true, true, true, false, false, false, false, false, false, false, false, false, false, false, false, false, false, false, false, false, false, false, false, false, false, false, false, false]) (fuel := 25) (v := ?_) rfl (by kernel_rfl) (by kernel_rfl) (by kernel_rfl) (by kernel_rfl) (by kernel_rfl) (fun _ _ _ h => h) (by kernel_rfl) ?_ (by assumption) ?_
  rotate_left 1
  · (intro wS hSw; (try dsimp only at hSw); go_simp; try with_reducible rfl)
  try simp only [Act.put, List.setIfInBounds_toArray, List.set_cons_zero, List.set_cons_succ]
  refine rg_take (i := 22) (d := some 32) (l := #[true, true, true, true, true, true, true, true, true, true, true, true, true, true, true, true, true, true, true, true, true, true, true, false, false, false, false, false, false, false, false, false, false, false, false, false, false, false, false, false, false, false, false, false, false, false, false]) (fuel := 24) (v := ?_) rfl (by kernel_rfl) (by kernel_rfl) (by kernel_rfl) (by kernel_rfl) (by kernel_rfl) (fun _ _ _ h => h) (by kernel_rfl) ?_ (by assumption) ?_
  rotate_left 1
  · (intro wS hSw; (try dsimp only at hSw); go_simp; try with_reducible rfl)
  try simp only [Act.put, List.setIfInBounds_toArray, List.set_cons_zero, List.set_cons_succ]
  refine rg_take (i := 23) (d := some 33) (l := #[true, true, true, true, true, true, true, true, true, true, true, true, true, true, true, true, true, true, true, true, true, true, true, true, false, false, false, false, false, false, false, false, false, false, false, false, false, false, false, false, false, false, false, false, false, false, false]) (fuel := 23) (v := ?_) rfl (by kernel_rfl) (by kernel_rfl) (by kernel_rfl) (by kernel_rfl) (by kernel_rfl) (fun _ _ _ h => h) (by kernel_rfl) ?_ (by assumption) ?_
  rotate_left 1
  · (intro wS hSw; (try dsimp only at hSw); go_simp; try with_reducible rfl)
  try simp only [Act.put, List.setIfInBounds_toArray, List.set_cons_zero, List.set_cons_succ]
  refine rg_take (i := 24) (d := some 34) (l := #[true, true, true, true, true, true, true, true, true, true, true, true, true, true, true, true, true, true, true, true, true, true, true, true, true, false, false, false, false, false, false, false, false, false, false, false, false, false, false, false, false, false, false, false, false, false, false]) (fuel := 22) (v := ?_) rfl (by kernel_rfl) (by kernel_rfl) (by kernel_rfl) (by kernel_rfl) (by kernel_rfl) (fun _ _ _ h => h) (by kernel_rfl) ?_ (by assumption) ?_
  rotate_left 1
  · (intro wS hSw; (try dsimp only at hSw); go_simp; try with_reducible rfl)
  try simp only [Act.put, List.setIfInBounds_toArray, List.set_cons_zero, List.set_cons_succ]
  refine rg_take (i := 25) (d := some 35) (l := #[true, true, true, true, true, true, true, true, true, true, true, true, true, true, true, true, true, true, true, true, true, true, true, true, true, true, false, false, false, false, false, false, false, false, false, false, false, false, false, false, false, false, false, false, false, false, false]) (fuel := 21) (v := .agg (stA lvA)) rfl (by kernel_rfl) (by kernel_rfl) (by kernel_rfl) (by kernel_rfl) (by kernel_rfl) (fun _ _ _ h => h) (by kernel_rfl) ?_ (by assumption) ?_
  · (intro wS hSw; (try dsimp only at hSw); exact erow_load lvA rfl rfl hSw.1.1)
  try simp only [Act.put, List.setIfInBounds_toArray, List.set_cons_zero, List.set_cons_succ]
  refine rg_next (i := 26) (l := #[true, true, true, true, true, true, true, true, true, true, true, true, true, true, true, true, true, true, true, true, true, true, true, true, true, true, true, false, false, false, false, false, false, false, false, false, false, false, false, false, false, false, false, false, false, false, false]) (fuel := 20) (by kernel_rfl) rfl (by kernel_rfl) (by kernel_rfl) (fun K hK => ?_)
  go_simp
  go_at_call 15
  refine (eplan_no 0 lvA (by omega) _).mono ?_
  rintro e wE ⟨rfl, hb⟩
  have HLE := Lib.hid (HLD.out.later hb)
  have HBE := Lib.hid (HBD.out.trans (hb.mono HBD.out.size))
  clear hb HLD HBD
  first | (refine hK.out _ _ ?_ (fun hHeld => ?_)) | (go_wp2_with fail; refine hK.out _ _ ?_ (fun hHeld => ?_))
  · (try dsimp only); exact HLE.out
  clear hK K
  try simp only [Act.put, List.setIfInBounds_toArray, List.set_cons_zero, List.set_cons_succ]
  refine rg_take (i := 27) (d := some 37) (l := #[true, true, true, true, true, true, true, true, true, true, true, true, true, true, true, true, true, true, true, true, true, true, true, true, true, true, true, true, false, false, false, false, false, false, false, false, false, false, false, false, false, false, false, false, false, false, false]) (fuel := 19) (v := ?_) rfl (by kernel_rfl) (by kernel_rfl) (by kernel_rfl) (by kernel_rfl) (by kernel_rfl) (fun _ _ _ h => h) (by kernel_rfl) ?_ (by assumption) ?_
  rotate_left 1
  · (intro wS hSw; (try dsimp only at hSw); go_simp; try with_reducible rfl)
  try simp only [Act.put, List.setIfInBounds_toArray, List.set_cons_zero, List.set_cons_succ]
  refine rg_take (i := 28) (d := some 38) (l := #[true, true, true, true, true, true, true, true, true, true, true, true, true, true, true, true, true, true, true, true, true, true, true, true, true, true, true, true, true, false, false, false, false, false, false, false, false, false, false, false, false, false, false, false, false, false, false]) (fuel := 18) (v := ?_) rfl (by kernel_rfl) (by kernel_rfl) (by kernel_rfl) (by kernel_rfl) (by kernel_rfl) (fun _ _ _ h => h) (by kernel_rfl) ?_ (by assumption) ?_
  rotate_left 1
  · (intro wS hSw; (try dsimp only at hSw); go_simp; try with_reducible rfl)
  try simp only [Act.put, List.setIfInBounds_toArray, List.set_cons_zero, List.set_cons_succ]
  refine rg_take (i := 29) (d := some 39) (l := #[true, true, true, true, true, true, true, true, true, true, true, true, true, true, true, true, true, true, true, true, true, true, true, true, true, true, true, true, true, true, false, false, false, false, false, false, false, false, false, false, false, false, false, false, false, false, false]) (fuel := 17) (v := ?_) rfl (by kernel_rfl) (by kernel_rfl) (by kernel_rfl) (by kernel_rfl) (by kernel_rfl) (fun _ _ _ h => h) (by kernel_rfl) ?_ (by assumption) ?_
  rotate_left 1
  · (intro wS hSw; (try dsimp only at hSw); go_simp; try with_reducible rfl)
  try simp only [Act.put, List.setIfInBounds_toArray, List.set_cons_zero, List.set_cons_succ]
  refine rg_take (i := 30) (d := some 40) (l := #[true, true, true, true, true, true, true, true, true, true, true, true, true, true, true, true, true, true, true, true, true, true, true, true, true, true, true, true, true, true, true, false, false, false, false, false, false, false, false, false, false, false, false, false, false, false, false]) (fuel := 16) (v := ?_) rfl (by kernel_rfl) (by kernel_rfl) (by kernel_rfl) (by kernel_rfl) (by kernel_rfl) (fun _ _ _ h => h) (by kernel_rfl) ?_ (by assumption) ?_
  rotate_left 1
  · (intro wS hSw; (try dsimp only at hSw); go_simp; try with_reducible rfl)
  try simp only [Act.put, List.setIfInBounds_toArray, List.set_cons_zero, List.set_cons_succ]
  refine rg_take (i := 31) (d := some 41) (l := #[true, true, true, true, true, true, true, true, true, true, true, true, true, true, true, true, true, true, true, true, true, true, true, true, true, true, true, true, true, true, true, true, false, false, false, false, false, false, false, false, false, false, false, false, false, false, false]) (fuel := 15) (v := .agg (stA lvX)) rfl (by kernel_rfl) (by kernel_rfl) (by kernel_rfl) (by kernel_rfl) (by kernel_rfl) (fun _ _ _ h => h) (by kernel_rfl) ?_ (by assumption) ?_
  · (intro wS hSw; (try dsimp only at hSw); exact erow_load lvX rfl rfl hSw.1.2)
  try simp only [Act.put, List.setIfInBounds_toArray, List.set_cons_zero, List.set_cons_succ]
  refine rg_take (i := 32) (d := some 42) (l := #[true, true, true, true, true, true, true, true, true, true, true, true, true, true, true, true, true, true, true, true, true, true, true, true, true, true, true, true, true, true, true, true, true, false, false, false, false, false, false, false, false, false, false, false, false, false, false]) (fuel := 14) (v := ?_) rfl (by kernel_rfl) (by kernel_rfl) (by kernel_rfl) (by kernel_rfl) (by kernel_rfl) (fun _ _ _ h => h) (by kernel_rfl) ?_ (by assumption) ?_
  rotate_left 1
  · (intro wS hSw; (try dsimp only at hSw); go_simp; try with_reducible rfl)
  try simp only [Act.put, List.setIfInBounds_toArray, List.set_cons_zero, List.set_cons_succ]
  refine rg_take (i := 33) (d := some 43) (l := #[true, true, true, true, true, true, true, true, true, true, true, true, true, true, true, true, true, true, true, true, true, true, true, true, true, true, true, true, true, true, true, true, true, true, false, false, false, false, false, false, false, false, false, false, false, false, false]) (fuel := 13) (v := .bool true) rfl (by kernel_rfl) (by kernel_rfl) (by kernel_rfl) (by kernel_rfl) (by kernel_rfl) (fun _ _ _ h => h) (by kernel_rfl) ?_ (by assumption) ?_
  · (intro wS hSw; (try dsimp only at hSw); exact eexec_eql lvX rfl rfl rfl)
  try simp only [Act.put, List.setIfInBounds_toArray, List.set_cons_zero, List.set_cons_succ]
  refine rg_take (i := 34) (d := some 44) (l := #[true, true, true, true, true, true, true, true, true, true, true, true, true, true, true, true, true, true, true, true, true, true, true, true, true, true, true, true, true, true, true, true, true, true, true, false, false, false, false, false, false, false, false, false, false, false, false]) (fuel := 12) (v := ?_) rfl (by kernel_rfl) (by kernel_rfl) (by kernel_rfl) (by kernel_rfl) (by kernel_rfl) (fun _ _ _ h => h) (by kernel_rfl) ?_ (by assumption) ?_
  rotate_left 1
  · (intro wS hSw; (try dsimp only at hSw); go_simp; try with_reducible rfl)
  try simp only [Act.put, List.setIfInBounds_toArray, List.set_cons_zero, List.set_cons_succ]
  refine rg_take (i := 35) (d := some 45) (l := #[true, true, true, true, true, true, true, true, true, true, true, true, true, true, true, true, true, true, true, true, true, true, true, true, true, true, true, true, true, true, true, true, true, true, true, true, false, false, false, false, false, false, false, false, false, false, false]) (fuel := 11) (v := ?_) rfl (by kernel_rfl) (by kernel_rfl) (by kernel_rfl) (by kernel_rfl) (by kernel_rfl) (fun _ _ _ h => h) (by kernel_rfl) ?_ (by assumption) ?_
  rotate_left 1
  · (intro wS hSw; (try dsimp only at hSw); go_simp; try with_reducible rfl)
  try simp only [Act.put, List.setIfInBounds_toArray, List.set_cons_zero, List.set_cons_succ]
  refine rg_take (i := 37) (d := some 47) (l := #[true, true, true, true, true, true, true, true, true, true, true, true, true, true, true, true, true, true, true, true, true, true, true, true, true, true, true, true, true, true, true, true, true, true, true, true, false, true, false, false, false, false, false, false, false, false, false]) (fuel := 10) (v := ?_) rfl (by kernel_rfl) (by kernel_rfl) (by kernel_rfl) (by kernel_rfl) (by kernel_rfl) (fun _ _ _ h => h) (by kernel_rfl) ?_ (by assumption) ?_
  rotate_left 1
  · (intro wS hSw; (try dsimp only at hSw); go_simp; try with_reducible rfl)
  try simp only [Act.put, List.setIfInBounds_toArray, List.set_cons_zero, List.set_cons_succ]
  refine rg_next (i := 36) (l := #[true, true, true, true, true, true, true, true, true, true, true, true, true, true, true, true, true, true, true, true, true, true, true, true, true, true, true, true, true, true, true, true, true, true, true, true, true, true, false, false, false, false, false, false, false, false, false]) (fuel := 9) (by kernel_rfl) rfl (by kernel_rfl) (by kernel_rfl) (fun K hK => ?_)
  go_simp
  go_at_call 17
  refine (ebegin_any _).mono ?_
  rintro e wF ⟨rfl, hb⟩
  have HLF := Lib.hid (HLE.out.later hb)
  have HBF := Lib.hid (HBE.out.trans (hb.mono HBE.out.size))
  clear hb HLE HBE
  first | (refine hK.out _ _ ?_ (fun hHeld => ?_)) | (go_wp2_with fail; refine hK.out _ _ ?_ (fun hHeld => ?_))
  · (try dsimp only); exact HLF.out
  clear hK K
  try simp only [Act.put, List.setIfInBounds_toArray, List.set_cons_zero, List.set_cons_succ]
  refine rg_take (i := 38) (d := some 48) (l := #[true, true, true, true, true, true, true, true, true, true, true, true, true, true, true, true, true, true, true, true, true, true, true, true, true, true, true, true, true, true, true, true, true, true, true, true, true, true, true, false, false, false, false, false, false, false, false]) (fuel := 8) (v := .bool true) rfl (by kernel_rfl) (by kernel_rfl) (by kernel_rfl) (by kernel_rfl) (by kernel_rfl) (fun _ _ _ h => h) (by kernel_rfl) ?_ (by assumption) ?_
  · (intro wS hSw; (try dsimp only at hSw); exact eexec_eql lvG rfl rfl rfl)
  try simp only [Act.put, List.setIfInBounds_toArray, List.set_cons_zero, List.set_cons_succ]
  refine rg_take (i := 39) (d := some 49) (l := #[true, true, true, true, true, true, true, true, true, true, true, true, true, true, true, true, true, true, true, true, true, true, true, true, true, true, true, true, true, true, true, true, true, true, true, true, true, true, true, true, false, false, false, false, false, false, false]) (fuel := 7) (v := ?_) rfl (by kernel_rfl) (by kernel_rfl) (by kernel_rfl) (by kernel_rfl) (by kernel_rfl) (fun _ _ _ h => h) (by kernel_rfl) ?_ (by assumption) ?_
  rotate_left 1
  · (intro wS hSw; (try dsimp only at hSw); go_simp; try with_reducible rfl)
  try simp only [Act.put, List.setIfInBounds_toArray, List.set_cons_zero, List.set_cons_succ]
  refine rg_take (i := 40) (d := some 50) (l := #[true, true, true, true, true, true, true, true, true, true, true, true, true, true, true, true, true, true, true, true, true, true, true, true, true, true, true, true, true, true, true, true, true, true, true, true, true, true, true, true, true, false, false, false, false, false, false]) (fuel := 6) (v := ?_) rfl (by kernel_rfl) (by kernel_rfl) (by kernel_rfl) (by kernel_rfl) (by kernel_rfl) (fun _ _ _ h => h) (by kernel_rfl) ?_ (by assumption) ?_
  rotate_left 1
  · (intro wS hSw; (try dsimp only at hSw); go_simp; try with_reducible rfl)
  try simp only [Act.put, List.setIfInBounds_toArray, List.set_cons_zero, List.set_cons_succ]
  refine rg_take (i := 41) (d := some 51) (l := #[true, true, true, true, true, true, true, true, true, true, true, true, true, true, true, true, true, true, true, true, true, true, true, true, true, true, true, true, true, true, true, true, true, true, true, true, true, true, true, true, true, true, false, false, false, false, false]) (fuel := 5) (v := .agg (stA lvA)) rfl (by kernel_rfl) (by kernel_rfl) (by kernel_rfl) (by kernel_rfl) (by kernel_rfl) (fun _ _ _ h => h) (by kernel_rfl) ?_ (by assumption) ?_
  · (intro wS hSw; (try dsimp only at hSw); exact erow_load lvA rfl rfl hSw.1.1)
  try simp only [Act.put, List.setIfInBounds_toArray, List.set_cons_zero, List.set_cons_succ]
  refine rg_take (i := 43) (d := some 53) (l := #[true, true, true, true, true, true, true, true, true, true, true, true, true, true, true, true, true, true, true, true, true, true, true, true, true, true, true, true, true, true, true, true, true, true, true, true, true, true, true, true, true, true, false, true, false, false, false]) (fuel := 4) (v := .agg (stA lvA)) rfl (by kernel_rfl) (by kernel_rfl) (by kernel_rfl) (by kernel_rfl) (by kernel_rfl) (fun _ _ _ h => h) (by kernel_rfl) ?_ (by assumption) ?_
  · (intro wS hSw; (try dsimp only at hSw); exact erow_load lvA rfl rfl hSw.1.1)
  try simp only [Act.put, List.setIfInBounds_toArray, List.set_cons_zero, List.set_cons_succ]
  refine rg_next (i := 42) (l := #[true, true, true, true, true, true, true, true, true, true, true, true, true, true, true, true, true, true, true, true, true, true, true, true, true, true, true, true, true, true, true, true, true, true, true, true, true, true, true, true, true, true, true, true, false, false, false]) (fuel := 3) (by kernel_rfl) rfl (by kernel_rfl) (by kernel_rfl) (fun K hK => ?_)
  go_simp
  go_at_call 18
  refine (edo_no (.pointer none) 9 lvA _ (by decide)).mono ?_
  rintro e wG ⟨rfl, hb⟩
  have HLG := Lib.hid (HLF.out.later hb)
  have HBG := Lib.hid (HBF.out.trans (hb.mono HBF.out.size))
  clear hb HLF HBF
  first | (refine hK.out _ _ ?_ (fun hHeld => ?_)) | (go_wp2_with fail; refine hK.out _ _ ?_ (fun hHeld => ?_))
  · (try dsimp only); exact HLG.out
  clear hK K
  try simp only [Act.put, List.setIfInBounds_toArray, List.set_cons_zero, List.set_cons_succ]
  refine rg_take (i := 44) (d := some 54) (l := #[true, true, true, true, true, true, true, true, true, true, true, true, true, true, true, true, true, true, true, true, true, true, true, true, true, true, true, true, true, true, true, true, true, true, true, true, true, true, true, true, true, true, true, true, true, false, false]) (fuel := 2) (v := .bool true) rfl (by kernel_rfl) (by kernel_rfl) (by kernel_rfl) (by kernel_rfl) (by kernel_rfl) (fun _ _ _ h => h) (by kernel_rfl) ?_ (by assumption) ?_
  · (intro wS hSw; (try dsimp only at hSw); exact eexec_eql lvA rfl rfl rfl)
  try simp only [Act.put, List.setIfInBounds_toArray, List.set_cons_zero, List.set_cons_succ]
  refine rg_take (i := 45) (d := some 55) (l := #[true, true, true, true, true, true, true, true, true, true, true, true, true, true, true, true, true, true, true, true, true, true, true, true, true, true, true, true, true, true, true, true, true, true, true, true, true, true, true, true, true, true, true, true, true, true, false]) (fuel := 1) (v := ?_) rfl (by kernel_rfl) (by kernel_rfl) (by kernel_rfl) (by kernel_rfl) (by kernel_rfl) (fun _ _ _ h => h) (by kernel_rfl) ?_ (by assumption) ?_
  rotate_left 1
  · (intro wS hSw; (try dsimp only at hSw); go_simp; try with_reducible rfl)
  try simp only [Act.put, List.setIfInBounds_toArray, List.set_cons_zero, List.set_cons_succ]
  refine rg_take (i := 46) (d := some 0) (l := #[true, true, true, true, true, true, true, true, true, true, true, true, true, true, true, true, true, true, true, true, true, true, true, true, true, true, true, true, true, true, true, true, true, true, true, true, true, true, true, true, true, true, true, true, true, true, true]) (fuel := 0) (v := ?_) rfl (by kernel_rfl) (by kernel_rfl) (by kernel_rfl) (by kernel_rfl) (by kernel_rfl) (fun _ _ _ h => h) (by kernel_rfl) ?_ (by assumption) ?_
  rotate_left 1
  · (intro wS hSw; (try dsimp only at hSw); go_simp; try with_reducible rfl)
  try simp only [Act.put, List.setIfInBounds_toArray, List.set_cons_zero, List.set_cons_succ]
  refine wpAnyH_done (by kernel_rfl) ?_ _
  go_wp2_with fail
  go_ret
  exact ⟨rfl, HBG.out⟩
end Go.Proofs.YtngfmofjonleeaaGreat
namespace Go.Proofs.YtngfmofjonleeaaGreat
open Go.RowKit
set_option linter.unusedVariables false
set_option linter.unusedSimpArgs false
set_option maxRecDepth 100000
end Go.Proofs.YtngfmofjonleeaaGreat
