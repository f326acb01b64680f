/-
  Texts of these proofs, one behind the other: Scr35, Scr36.
-/
import Derived.Test.YtnhnphifhkkboaaDoorKSW46
import Derived.Lib.ItoaLen
import Derived.Shelf.Unicode.PredsPay
import Derived.Test.YtnhnphifhkkboaaDoorKSW25
namespace Go.Proofs.YtnhnphifhkkboaaDoor
open Go.RowKit Go.Shelf
set_option linter.unusedVariables false
set_option linter.unusedSimpArgs false
set_option maxRecDepth 100000
def upW (u : Bool) : ByteArray := if u then ⟨#[117, 112]⟩ else ⟨#[100, 111, 119, 110]⟩
def edgeLine (e : Iib) : ByteArray := lineB [upW e.c, itoB e.a, nmN e.b.toNat]
def edgL (es : Nat → Iib) (m : Nat) : List ByteArray := (List.range m).map fun k => edgeLine (es k)
theorem edgL_len (es : Nat → Iib) (m : Nat) : (edgL es m).length = m := by simp [edgL]
theorem edgL_succ (es : Nat → Iib) (m : Nat) : edgL es (m + 1) = edgL es m ++ [edgeLine (es m)] := by simp [edgL, List.range_succ]
/-- Edges that may be written. -/
def EdOk (es : Nat → Iib) (m : Nat) : Prop := ∀ k, k < m → 0 ≤ (es k).b ∧ (es k).b ≤ 3 ∧ 0 ≤ (es k).a ∧ (es k).a ≤ 4611686018427387904
theorem itoB_le (n : Int) (h0 : -9223372036854775808 ≤ n) (h1 : n ≤ 9223372036854775807) : (itoB n).size ≤ 21 := by
  have := Lib.itoa_length_le n h0 h1
  show (Lib.itoa n).toArray.size ≤ 21
  simpa using this
theorem upW_le (u : Bool) : (upW u).size ≤ 4 := by cases u <;> decide
theorem nmN_le (k : Nat) : (nmN k).size ≤ 5 := by unfold nmN; split <;> decide
theorem swp_append_any {P : Program} {w w' : World} {o : Oper} {a : Act} {K : Act → World → Prop} {Q : Exit → Act → World → Prop} (s x : Operand) (t : TypeId)
    (ho : o.op = .call { callee := .builtin .append, args := #[s, x], argTypes := #[t, t] }) {v u v' : Value} (hs : a.eval s = v) (hx : a.eval x = u)
    (hrun : (Builtin.append_ #[t, t] o.type #[v, u]).run P w = .ok v' w') (h : K (a.put o.dst v') w') : Oper.wp P o a w K Q := by
  unfold Oper.wp execOp
  simp only [ho, resolve, invoke, builtin, Sem.run_bind, Sem.run_pure, Result.andThen_ok, List.map_toArray, List.map_cons, List.map_nil, hs, hx, hrun]
  exact h
theorem pow10_below {w w' : World} (h : pow10T w) (hb : Below w.heap.size w w') : pow10T w' := TabIs_below (g := 1) (by kernel_rfl) h hb
set_option maxHeartbeats 16000000 in
theorem scchanges_any {w : World} {A : Option Addr} {m c : Nat} {es : Nat → Iib} (hm : m ≤ 1000000) (hE : EdOk es m) (R : ERow w A m es) (hN : NmT w) (hT : pow10T w) :
    Calls Tryd.prog 60 #[.slice A m c] w fun e w' => ∃ v, e = .returned v ∧ w'.ownsRow w.heap.size 9 1 v (edgL es m).length ((edgL es m).map Value.string) ∧ Below w.heap.size w w' := by
  have HR := Lib.hid R
  have HN := Lib.hid hN
  have HT := Lib.hid hT
  have HE := Lib.hid hE
  clear R hN hT hE
  go_enter Tryd.func60, Tryd.ntmps60
  go_wp2_with fail
  go_loopw [3, 9] (fun v i wr => ∃ k : Nat, k ≤ m ∧ i = .int .i64 (k : Int) ∧ wr.ownsRow w.heap.size 9 1 v k ((edgL es k).map Value.string) ∧ Below w.heap.size w wr) (fun _ i _ => m - (intOf i).toNat)
  case atStart => exact ⟨0, by omega, rfl, World.ownsRow_nil _ _ _ _, Below.refl _ _⟩
  case round =>
    obtain ⟨k, hk, rfl, own, hB⟩ := hrel
    have OWN := Lib.hid own
    have HB := Lib.hid hB
    clear own hB
    by_cases hlt : k < m
    · obtain ⟨d1, rfl, _, e0, e1, e2⟩ := ERow.cells (FRow.keep HR.out HB.out) k hlt
      obtain ⟨b0, b1, a0, a1⟩ := HE.out k hlt
      have hnx := edgL_succ es k
      obtain ⟨ev, hev⟩ : ∃ v, es k = v := ⟨_, rfl⟩
      rw [hev] at e0 e1 e2 hnx b0 b1 a0 a1
      obtain ⟨ea, eb, ec⟩ := ev
      dsimp only at e0 e1 e2 b0 b1 a0 a1
      have HNX := Lib.hid hnx
      have hB2 : Below w.heap.size w (wr.alloc (.cells #[.int .i64 ea, .int .u8 eb, .bool ec] 31)) := HB.out.alloc HB.out.size _
      have own2 := own_below OWN.out ((Below.refl _ wr).alloc (Nat.le_refl _) (.cells #[.int .i64 ea, .int .u8 eb, .bool ec] 31))
      have bE : Blk (wr.alloc (.cells #[.int .i64 ea, .int .u8 eb, .bool ec] 31)) wr.heap.size 31 #[.int .i64 ea, .int .u8 eb, .bool ec] := Blk.new _ _ _
      have HB2 := Lib.hid hB2
      have OWN2 := Lib.hid own2
      have BE := Lib.hid bE
      have c2 : (wr.alloc (.cells #[.int .i64 ea, .int .u8 eb, .bool ec] 31)).cell? ⟨wr.heap.size, 2, none⟩ = some (.bool ec) := BE.out.cell 2
      clear hev hnx hB2 own2 bE OWN HB
      cases ec with
      | true =>
        go_upto_region 8 with fail
        generalize World.alloc wr _ = w2 at *
        generalize wr.heap.size = g at *
        have c0 : w2.cell? ⟨g, 0, none⟩ = some (.int .i64 ea) := BE.out.cell 0
        have c1 : w2.cell? ⟨g, 1, none⟩ = some (.int .u8 eb) := BE.out.cell 1
        have hNw := HN.out.below HB2.out HN.out.1
        have b4 : eb < 4 := by omega
        have cN : w2.cell? ⟨0, eb.toNat, none⟩ = some (.string (nmN eb.toNat)) := hNw.2 _ (by omega)
        have HLI : Hid (edgeLine ⟨ea, eb, true⟩ = lineB [⟨#[117, 112]⟩, itoB ea, nmN eb.toNat]) := Lib.hid rfl
        have hnm := nmN_le eb.toNat
        have hdl := itoB_le ea (by omega) (by omega)
        have HDC := fun W hW => scdecimal_any ea (by omega) (by omega) W (pow10_below HT.out hW)
        obtain ⟨NM, hNM⟩ : ∃ q, nmN eb.toNat = q := ⟨_, rfl⟩
        obtain ⟨DC, hDC⟩ : ∃ q, itoB ea = q := ⟨_, rfl⟩
        rw [hNM] at cN HLI hnm
        rw [hDC] at HLI hdl HDC
        have HSZ := Lib.hid (And.intro hnm hdl)
        have HGN := Lib.hid (And.intro hNw.1 BE.out.lt)
        have HDCH := Lib.hid HDC
        clear hNM hDC hnm hdl HDC c2 hNw
        refine rg_begin (S := fun w' => w'.cell? ⟨g, 0, none⟩ = some (.int .i64 ea) ∧ w'.cell? ⟨g, 1, none⟩ = some (.int .u8 eb) ∧ w'.cell? ⟨0, eb.toNat, none⟩ = some (.string NM)) 14 #[false, false, false, false, false, false, false, false, false, false, false, false, false, false] (by kernel_rfl) (by kernel_rfl) (by kernel_rfl) ?_ (fun hHeld => ?_)
        · exact ⟨c0, c1, cN⟩
        refine rg_take (i := 0) (d := some 15) (l := #[true, false, false, false, false, false, false, false, false, false, false, false, false, false]) (fuel := 13) (v := ?_) rfl (by kernel_rfl) (by kernel_rfl) (by kernel_rfl) (by kernel_rfl) (by kernel_rfl) (fun _ _ _ h => h) (by kernel_rfl) ?_ (by assumption) ?_
        rotate_left 1
        · (intro wS hSw; (try dsimp only at hSw); go_simp; try with_reducible rfl)
        try simp only [Act.put, List.setIfInBounds_toArray, List.set_cons_zero, List.set_cons_succ]
        refine rg_take (i := 1) (d := some 16) (l := #[true, true, false, false, false, false, false, false, false, false, false, false, false, false]) (fuel := 12) (v := ?_) rfl (by kernel_rfl) (by kernel_rfl) (by kernel_rfl) (by kernel_rfl) (by kernel_rfl) (fun _ _ _ h => h) (by kernel_rfl) ?_ (by assumption) ?_
        rotate_left 1
        · (intro wS hSw; (try dsimp only at hSw); go_simp; try with_reducible rfl)
        try simp only [Act.put, List.setIfInBounds_toArray, List.set_cons_zero, List.set_cons_succ]
        refine rg_take (i := 2) (d := some 17) (l := #[true, true, true, false, false, false, false, false, false, false, false, false, false, false]) (fuel := 11) (v := ?_) rfl (by kernel_rfl) (by kernel_rfl) (by kernel_rfl) (by kernel_rfl) (by kernel_rfl) (fun _ _ _ h => h) (by kernel_rfl) ?_ (by assumption) ?_
        rotate_left 1
        · (intro wS hSw; (try dsimp only at hSw); go_simp; try with_reducible rfl)
        try simp only [Act.put, List.setIfInBounds_toArray, List.set_cons_zero, List.set_cons_succ]
        refine rg_take (i := 3) (d := some 18) (l := #[true, true, true, true, false, false, false, false, false, false, false, false, false, false]) (fuel := 10) (v := ?_) rfl (by kernel_rfl) (by kernel_rfl) (by kernel_rfl) (by kernel_rfl) (by kernel_rfl) (fun _ _ _ h => h) (by kernel_rfl) ?_ (by assumption) ?_
        rotate_left 1
        · (intro wS hSw; (try dsimp only at hSw); go_simp; try with_reducible rfl)
        try simp only [Act.put, List.setIfInBounds_toArray, List.set_cons_zero, List.set_cons_succ]
        refine rg_take (i := 5) (d := some 20) (l := #[true, true, true, true, false, true, false, false, false, false, false, false, false, false]) (fuel := 9) (v := ?_) rfl (by kernel_rfl) (by kernel_rfl) (by kernel_rfl) (by kernel_rfl) (by kernel_rfl) (fun _ _ _ h => h) (by kernel_rfl) ?_ (by assumption) ?_
        rotate_left 1
        · (intro wS hSw; (try dsimp only at hSw); go_simp; try with_reducible rfl)
        try simp only [Act.put, List.setIfInBounds_toArray, List.set_cons_zero, List.set_cons_succ]
        refine rg_take (i := 6) (d := some 21) (l := #[true, true, true, true, false, true, true, false, false, false, false, false, false, false]) (fuel := 8) (v := ?_) rfl (by kernel_rfl) (by kernel_rfl) (by kernel_rfl) (by kernel_rfl) (by kernel_rfl) (fun _ _ _ h => h) (by kernel_rfl) ?_ (by assumption) ?_
        rotate_left 1
        · (intro wS hSw; (try dsimp only at hSw); go_simp; try with_reducible rfl)
        try simp only [Act.put, List.setIfInBounds_toArray, List.set_cons_zero, List.set_cons_succ]
        refine rg_take (i := 7) (d := some 22) (l := #[true, true, true, true, false, true, true, true, false, false, false, false, false, false]) (fuel := 7) (v := ?_) rfl (by kernel_rfl) (by kernel_rfl) (by kernel_rfl) (by kernel_rfl) (by kernel_rfl) (fun _ _ _ h => h) (by kernel_rfl) ?_ (by assumption) ?_
        rotate_left 1
        · (intro wS hSw; (try dsimp only at hSw); go_simp; try with_reducible rfl)
        try simp only [Act.put, List.setIfInBounds_toArray, List.set_cons_zero, List.set_cons_succ]
        refine rg_take (i := 8) (d := some 23) (l := #[true, true, true, true, false, true, true, true, true, false, false, false, false, false]) (fuel := 6) (v := ?_) rfl (by kernel_rfl) (by kernel_rfl) (by kernel_rfl) (by kernel_rfl) (by kernel_rfl) (fun _ _ _ h => h) (by kernel_rfl) ?_ (by assumption) ?_
        rotate_left 1
        · (intro wS hSw; (try dsimp only at hSw); go_simp; try with_reducible rfl)
        try simp only [Act.put, List.setIfInBounds_toArray, List.set_cons_zero, List.set_cons_succ]
        have HB3 := Lib.hid HB2.out.drew
        have OWN3 := Lib.hid (own_below OWN2.out (Below.refl _ w2).drew)
        have HG3 : Hid (0 < w2.drew.heap.size ∧ g < w2.drew.heap.size) := Lib.hid HGN.out
        have BE3 := Lib.hid BE.out.drew_
        clear HB2 OWN2 HGN BE c0 c1 cN
        generalize World.drew w2 = w3 at *
        refine rg_next (i := 4) (l := #[true, true, true, true, true, true, true, true, true, false, false, false, false, false]) (fuel := 5) (by kernel_rfl) rfl (by kernel_rfl) (by kernel_rfl) (fun K hK => ?_)
        go_simp
        go_at_call 57
        refine (HDCH.out _ HB3.out).mono ?_
        rintro e w4 ⟨rfl, b4⟩
        first | (refine hK.out _ _ ?_ (fun hHeld => ?_)) | (go_wp2_with fail; refine hK.out _ _ ?_ (fun hHeld => ?_))
        · (try dsimp only); exact ⟨(b4.cell (p := ⟨g, 0, none⟩) HG3.out.2).trans hHeld.1, (b4.cell (p := ⟨g, 1, none⟩) HG3.out.2).trans hHeld.2.1, (b4.cell (p := ⟨0, _, none⟩) HG3.out.1).trans hHeld.2.2⟩
        clear hK K
        try simp only [Act.put, List.setIfInBounds_toArray, List.set_cons_zero, List.set_cons_succ]
        have HH4 := Lib.hid hHeld
        have HB4 := Lib.hid (HB3.out.trans (b4.mono HB3.out.size))
        have OWN4 := Lib.hid (own_below OWN3.out b4)
        have BE4 := Lib.hid (BE3.out.below b4 BE3.out.lt)
        have HG4 : Hid (0 < w4.heap.size ∧ g < w4.heap.size) := Lib.hid ⟨Nat.lt_of_lt_of_le HG3.out.1 b4.size, Nat.lt_of_lt_of_le HG3.out.2 b4.size⟩
        clear HB3 OWN3 HG3 BE3 b4 hHeld HDCH
        have bA : Below w4.heap.size w4 (w4.alloc (.cells #[.string ⟨#[117, 112]⟩, .string DC, .string NM] 9)) := (Below.refl _ w4).alloc (Nat.le_refl _) _
        have bN := Blk.new w4 9 #[.string ⟨#[117, 112]⟩, .string DC, .string NM]
        refine rg_next (i := 9) (l := #[true, true, true, true, true, true, true, true, true, true, false, false, false, false]) (fuel := 4) (by kernel_rfl) rfl (by kernel_rfl) (by kernel_rfl) (fun K hK => ?_)
        go_simp
        skip
        first | (refine hK.out _ _ ?_ (fun hHeld => ?_)) | (go_wp2_with fail; refine hK.out _ _ ?_ (fun hHeld => ?_))
        · (try dsimp only); exact ⟨(bA.cell (p := ⟨g, 0, none⟩) HG4.out.2).trans HH4.out.1, (bA.cell (p := ⟨g, 1, none⟩) HG4.out.2).trans HH4.out.2.1, (bA.cell (p := ⟨0, _, none⟩) HG4.out.1).trans HH4.out.2.2⟩
        clear hK K
        try simp only [Act.put, List.setIfInBounds_toArray, List.set_cons_zero, List.set_cons_succ]
        obtain ⟨w5, hw5⟩ : ∃ q, w4.alloc (.cells #[.string ⟨#[117, 112]⟩, .string DC, .string NM] 9) = q := ⟨_, rfl⟩
        rw [hw5] at bA bN hHeld ⊢
        have HH5 := Lib.hid hHeld
        have HB5 := Lib.hid (HB4.out.trans (bA.mono HB4.out.size))
        have OWN5 := Lib.hid (own_below OWN4.out bA)
        have BE5 := Lib.hid (BE4.out.below bA BE4.out.lt)
        have HG5 : Hid (0 < w5.heap.size ∧ g < w5.heap.size) := Lib.hid ⟨Nat.lt_of_lt_of_le HG4.out.1 bA.size, Nat.lt_of_lt_of_le HG4.out.2 bA.size⟩
        have BN := Lib.hid bN
        clear HB4 OWN4 HG4 BE4 HH4 bA bN hHeld hw5
        generalize w4.heap.size = g4 at *
        refine rg_next (i := 10) (l := #[true, true, true, true, true, true, true, true, true, true, true, false, false, false]) (fuel := 3) (by kernel_rfl) rfl (by kernel_rfl) (by kernel_rfl) (fun K hK => ?_)
        go_simp
        go_at_call 56
        refine (scline3_any BN.out (by decide) (Nat.le_trans HSZ.out.2 (by decide)) (Nat.le_trans HSZ.out.1 (by decide))).mono ?_
        rintro e w6 ⟨rfl, b6⟩
        first | (refine hK.out _ _ ?_ (fun hHeld => ?_)) | (go_wp2_with fail; refine hK.out _ _ ?_ (fun hHeld => ?_))
        · (try dsimp only); exact ⟨(b6.cell (p := ⟨g, 0, none⟩) HG5.out.2).trans HH5.out.1, (b6.cell (p := ⟨g, 1, none⟩) HG5.out.2).trans HH5.out.2.1, (b6.cell (p := ⟨0, _, none⟩) HG5.out.1).trans HH5.out.2.2⟩
        clear hK K
        try simp only [Act.put, List.setIfInBounds_toArray, List.set_cons_zero, List.set_cons_succ]
        rw [← HLI.out]
        have HH6 := Lib.hid hHeld
        have HB6 := Lib.hid (HB5.out.trans (b6.mono HB5.out.size))
        have OWN6 := Lib.hid (own_below OWN5.out b6)
        have BE6 := Lib.hid (BE5.out.below b6 BE5.out.lt)
        have HG6 : Hid (0 < w6.heap.size ∧ g < w6.heap.size) := Lib.hid ⟨Nat.lt_of_lt_of_le HG5.out.1 b6.size, Nat.lt_of_lt_of_le HG5.out.2 b6.size⟩
        clear HB5 OWN5 HG5 BE5 HH5 b6 hHeld BN
        have hnx := HNX.out
        obtain ⟨LN, hLN⟩ : ∃ q, edgeLine ⟨ea, eb, true⟩ = q := ⟨_, rfl⟩
        rw [hLN] at hnx ⊢
        have HNX2 := Lib.hid hnx
        clear hnx hLN
        have bC : Below w6.heap.size w6 (w6.alloc (.cells #[.string LN] 9)) := (Below.refl _ w6).alloc (Nat.le_refl _) _
        refine rg_next (i := 11) (l := #[true, true, true, true, true, true, true, true, true, true, true, true, false, false]) (fuel := 2) (by kernel_rfl) rfl (by kernel_rfl) (by kernel_rfl) (fun K hK => ?_)
        go_simp
        skip
        first | (refine hK.out _ _ ?_ (fun hHeld => ?_)) | (go_wp2_with fail; refine hK.out _ _ ?_ (fun hHeld => ?_))
        · (try dsimp only); exact ⟨(bC.cell (p := ⟨g, 0, none⟩) HG6.out.2).trans HH6.out.1, (bC.cell (p := ⟨g, 1, none⟩) HG6.out.2).trans HH6.out.2.1, (bC.cell (p := ⟨0, _, none⟩) HG6.out.1).trans HH6.out.2.2⟩
        clear hK K
        try simp only [Act.put, List.setIfInBounds_toArray, List.set_cons_zero, List.set_cons_succ]
        obtain ⟨v7, w7, hrun, own7, hB7, hg7⟩ := sr_more OWN6.out HB6.out HB6.out.size (by omega) LN
        have BE7 := (BE6.out.alloc (.cells #[.string LN] 9)).grown hg7 (own_ne (own_below OWN6.out bC) _ _ _ (BE6.out.alloc (.cells #[.string LN] 9)) (by decide))
        have hn7 : w7.heap[0]? = (w6.alloc (.cells #[.string LN] 9)).heap[0]? := hg7.block _ (by have := HG6.out.1; rw [World.size_alloc]; omega) (fun e => by have h1 := (OWN6.out.lt _ e.symm).1; have h2 := HN.out.1; omega)
        have OWN7 := Lib.hid own7
        have HB7 := Lib.hid hB7
        clear own7 hB7 hg7
        refine rg_next (i := 12) (l := #[true, true, true, true, true, true, true, true, true, true, true, true, true, false]) (fuel := 1) (by kernel_rfl) rfl (by kernel_rfl) (by kernel_rfl) (fun K hK => ?_)
        refine swp_append_any (.tmp 15) (.tmp 26) 45 rfl rfl rfl hrun ?_
        refine hK.out _ _ ?_ (fun hHeld => ?_)
        · (try dsimp only); exact ⟨BE7.cell 0, BE7.cell 1, (World.cell?_of_block hn7).trans hHeld.2.2⟩
        clear hK K
        try simp only [Act.put, List.setIfInBounds_toArray, List.set_cons_zero, List.set_cons_succ]
        refine rg_take (i := 13) (d := some 3) (l := #[true, true, true, true, true, true, true, true, true, true, true, true, true, true]) (fuel := 0) (v := ?_) rfl (by kernel_rfl) (by kernel_rfl) (by kernel_rfl) (by kernel_rfl) (by kernel_rfl) (fun _ _ _ h => h) (by kernel_rfl) ?_ (by assumption) ?_
        rotate_left 1
        · (intro wS hSw; (try dsimp only at hSw); go_simp; try with_reducible rfl)
        try simp only [Act.put, List.setIfInBounds_toArray, List.set_cons_zero, List.set_cons_succ]
        refine wpAnyH_done (by kernel_rfl) ?_ _
        clear hrun hHeld hn7 BE7 BE6 HG6 HH6 HB6 OWN6 bC
        go_wp2_with fail
        go_roundw
        case rel => exact ⟨k + 1, by omega, by go_num, by rw [HNX2.out, List.map_append]; exact OWN7.out, HB7.out⟩
        case measure => simp [intOf]; omega
      | false =>
        go_upto_region 8 with fail
        generalize World.alloc wr _ = w2 at *
        generalize wr.heap.size = g at *
        have c0 : w2.cell? ⟨g, 0, none⟩ = some (.int .i64 ea) := BE.out.cell 0
        have c1 : w2.cell? ⟨g, 1, none⟩ = some (.int .u8 eb) := BE.out.cell 1
        have hNw := HN.out.below HB2.out HN.out.1
        have b4 : eb < 4 := by omega
        have cN : w2.cell? ⟨0, eb.toNat, none⟩ = some (.string (nmN eb.toNat)) := hNw.2 _ (by omega)
        have HLI : Hid (edgeLine ⟨ea, eb, false⟩ = lineB [⟨#[100, 111, 119, 110]⟩, itoB ea, nmN eb.toNat]) := Lib.hid rfl
        have hnm := nmN_le eb.toNat
        have hdl := itoB_le ea (by omega) (by omega)
        have HDC := fun W hW => scdecimal_any ea (by omega) (by omega) W (pow10_below HT.out hW)
        obtain ⟨NM, hNM⟩ : ∃ q, nmN eb.toNat = q := ⟨_, rfl⟩
        obtain ⟨DC, hDC⟩ : ∃ q, itoB ea = q := ⟨_, rfl⟩
        rw [hNM] at cN HLI hnm
        rw [hDC] at HLI hdl HDC
        have HSZ := Lib.hid (And.intro hnm hdl)
        have HGN := Lib.hid (And.intro hNw.1 BE.out.lt)
        have HDCH := Lib.hid HDC
        clear hNM hDC hnm hdl HDC c2 hNw
        refine rg_begin (S := fun w' => w'.cell? ⟨g, 0, none⟩ = some (.int .i64 ea) ∧ w'.cell? ⟨g, 1, none⟩ = some (.int .u8 eb) ∧ w'.cell? ⟨0, eb.toNat, none⟩ = some (.string NM)) 14 #[false, false, false, false, false, false, false, false, false, false, false, false, false, false] (by kernel_rfl) (by kernel_rfl) (by kernel_rfl) ?_ (fun hHeld => ?_)
        · exact ⟨c0, c1, cN⟩
        refine rg_take (i := 0) (d := some 15) (l := #[true, false, false, false, false, false, false, false, false, false, false, false, false, false]) (fuel := 13) (v := ?_) rfl (by kernel_rfl) (by kernel_rfl) (by kernel_rfl) (by kernel_rfl) (by kernel_rfl) (fun _ _ _ h => h) (by kernel_rfl) ?_ (by assumption) ?_
        rotate_left 1
        · (intro wS hSw; (try dsimp only at hSw); go_simp; try with_reducible rfl)
        try simp only [Act.put, List.setIfInBounds_toArray, List.set_cons_zero, List.set_cons_succ]
        refine rg_take (i := 1) (d := some 16) (l := #[true, true, false, false, false, false, false, false, false, false, false, false, false, false]) (fuel := 12) (v := ?_) rfl (by kernel_rfl) (by kernel_rfl) (by kernel_rfl) (by kernel_rfl) (by kernel_rfl) (fun _ _ _ h => h) (by kernel_rfl) ?_ (by assumption) ?_
        rotate_left 1
        · (intro wS hSw; (try dsimp only at hSw); go_simp; try with_reducible rfl)
        try simp only [Act.put, List.setIfInBounds_toArray, List.set_cons_zero, List.set_cons_succ]
        refine rg_take (i := 2) (d := some 17) (l := #[true, true, true, false, false, false, false, false, false, false, false, false, false, false]) (fuel := 11) (v := ?_) rfl (by kernel_rfl) (by kernel_rfl) (by kernel_rfl) (by kernel_rfl) (by kernel_rfl) (fun _ _ _ h => h) (by kernel_rfl) ?_ (by assumption) ?_
        rotate_left 1
        · (intro wS hSw; (try dsimp only at hSw); go_simp; try with_reducible rfl)
        try simp only [Act.put, List.setIfInBounds_toArray, List.set_cons_zero, List.set_cons_succ]
        refine rg_take (i := 3) (d := some 18) (l := #[true, true, true, true, false, false, false, false, false, false, false, false, false, false]) (fuel := 10) (v := ?_) rfl (by kernel_rfl) (by kernel_rfl) (by kernel_rfl) (by kernel_rfl) (by kernel_rfl) (fun _ _ _ h => h) (by kernel_rfl) ?_ (by assumption) ?_
        rotate_left 1
        · (intro wS hSw; (try dsimp only at hSw); go_simp; try with_reducible rfl)
        try simp only [Act.put, List.setIfInBounds_toArray, List.set_cons_zero, List.set_cons_succ]
        refine rg_take (i := 5) (d := some 20) (l := #[true, true, true, true, false, true, false, false, false, false, false, false, false, false]) (fuel := 9) (v := ?_) rfl (by kernel_rfl) (by kernel_rfl) (by kernel_rfl) (by kernel_rfl) (by kernel_rfl) (fun _ _ _ h => h) (by kernel_rfl) ?_ (by assumption) ?_
        rotate_left 1
        · (intro wS hSw; (try dsimp only at hSw); go_simp; try with_reducible rfl)
        try simp only [Act.put, List.setIfInBounds_toArray, List.set_cons_zero, List.set_cons_succ]
        refine rg_take (i := 6) (d := some 21) (l := #[true, true, true, true, false, true, true, false, false, false, false, false, false, false]) (fuel := 8) (v := ?_) rfl (by kernel_rfl) (by kernel_rfl) (by kernel_rfl) (by kernel_rfl) (by kernel_rfl) (fun _ _ _ h => h) (by kernel_rfl) ?_ (by assumption) ?_
        rotate_left 1
        · (intro wS hSw; (try dsimp only at hSw); go_simp; try with_reducible rfl)
        try simp only [Act.put, List.setIfInBounds_toArray, List.set_cons_zero, List.set_cons_succ]
        refine rg_take (i := 7) (d := some 22) (l := #[true, true, true, true, false, true, true, true, false, false, false, false, false, false]) (fuel := 7) (v := ?_) rfl (by kernel_rfl) (by kernel_rfl) (by kernel_rfl) (by kernel_rfl) (by kernel_rfl) (fun _ _ _ h => h) (by kernel_rfl) ?_ (by assumption) ?_
        rotate_left 1
        · (intro wS hSw; (try dsimp only at hSw); go_simp; try with_reducible rfl)
        try simp only [Act.put, List.setIfInBounds_toArray, List.set_cons_zero, List.set_cons_succ]
        refine rg_take (i := 8) (d := some 23) (l := #[true, true, true, true, false, true, true, true, true, false, false, false, false, false]) (fuel := 6) (v := ?_) rfl (by kernel_rfl) (by kernel_rfl) (by kernel_rfl) (by kernel_rfl) (by kernel_rfl) (fun _ _ _ h => h) (by kernel_rfl) ?_ (by assumption) ?_
        rotate_left 1
        · (intro wS hSw; (try dsimp only at hSw); go_simp; try with_reducible rfl)
        try simp only [Act.put, List.setIfInBounds_toArray, List.set_cons_zero, List.set_cons_succ]
        have HB3 := Lib.hid HB2.out.drew
        have OWN3 := Lib.hid (own_below OWN2.out (Below.refl _ w2).drew)
        have HG3 : Hid (0 < w2.drew.heap.size ∧ g < w2.drew.heap.size) := Lib.hid HGN.out
        have BE3 := Lib.hid BE.out.drew_
        clear HB2 OWN2 HGN BE c0 c1 cN
        generalize World.drew w2 = w3 at *
        refine rg_next (i := 4) (l := #[true, true, true, true, true, true, true, true, true, false, false, false, false, false]) (fuel := 5) (by kernel_rfl) rfl (by kernel_rfl) (by kernel_rfl) (fun K hK => ?_)
        go_simp
        go_at_call 57
        refine (HDCH.out _ HB3.out).mono ?_
        rintro e w4 ⟨rfl, b4⟩
        first | (refine hK.out _ _ ?_ (fun hHeld => ?_)) | (go_wp2_with fail; refine hK.out _ _ ?_ (fun hHeld => ?_))
        · (try dsimp only); exact ⟨(b4.cell (p := ⟨g, 0, none⟩) HG3.out.2).trans hHeld.1, (b4.cell (p := ⟨g, 1, none⟩) HG3.out.2).trans hHeld.2.1, (b4.cell (p := ⟨0, _, none⟩) HG3.out.1).trans hHeld.2.2⟩
        clear hK K
        try simp only [Act.put, List.setIfInBounds_toArray, List.set_cons_zero, List.set_cons_succ]
        have HH4 := Lib.hid hHeld
        have HB4 := Lib.hid (HB3.out.trans (b4.mono HB3.out.size))
        have OWN4 := Lib.hid (own_below OWN3.out b4)
        have BE4 := Lib.hid (BE3.out.below b4 BE3.out.lt)
        have HG4 : Hid (0 < w4.heap.size ∧ g < w4.heap.size) := Lib.hid ⟨Nat.lt_of_lt_of_le HG3.out.1 b4.size, Nat.lt_of_lt_of_le HG3.out.2 b4.size⟩
        clear HB3 OWN3 HG3 BE3 b4 hHeld HDCH
        have bA : Below w4.heap.size w4 (w4.alloc (.cells #[.string ⟨#[100, 111, 119, 110]⟩, .string DC, .string NM] 9)) := (Below.refl _ w4).alloc (Nat.le_refl _) _
        have bN := Blk.new w4 9 #[.string ⟨#[100, 111, 119, 110]⟩, .string DC, .string NM]
        refine rg_next (i := 9) (l := #[true, true, true, true, true, true, true, true, true, true, false, false, false, false]) (fuel := 4) (by kernel_rfl) rfl (by kernel_rfl) (by kernel_rfl) (fun K hK => ?_)
        go_simp
        skip
        first | (refine hK.out _ _ ?_ (fun hHeld => ?_)) | (go_wp2_with fail; refine hK.out _ _ ?_ (fun hHeld => ?_))
        · (try dsimp only); exact ⟨(bA.cell (p := ⟨g, 0, none⟩) HG4.out.2).trans HH4.out.1, (bA.cell (p := ⟨g, 1, none⟩) HG4.out.2).trans HH4.out.2.1, (bA.cell (p := ⟨0, _, none⟩) HG4.out.1).trans HH4.out.2.2⟩
        clear hK K
        try simp only [Act.put, List.setIfInBounds_toArray, List.set_cons_zero, List.set_cons_succ]
        obtain ⟨w5, hw5⟩ : ∃ q, w4.alloc (.cells #[.string ⟨#[100, 111, 119, 110]⟩, .string DC, .string NM] 9) = q := ⟨_, rfl⟩
        rw [hw5] at bA bN hHeld ⊢
        have HH5 := Lib.hid hHeld
        have HB5 := Lib.hid (HB4.out.trans (bA.mono HB4.out.size))
        have OWN5 := Lib.hid (own_below OWN4.out bA)
        have BE5 := Lib.hid (BE4.out.below bA BE4.out.lt)
        have HG5 : Hid (0 < w5.heap.size ∧ g < w5.heap.size) := Lib.hid ⟨Nat.lt_of_lt_of_le HG4.out.1 bA.size, Nat.lt_of_lt_of_le HG4.out.2 bA.size⟩
        have BN := Lib.hid bN
        clear HB4 OWN4 HG4 BE4 HH4 bA bN hHeld hw5
        generalize w4.heap.size = g4 at *
        refine rg_next (i := 10) (l := #[true, true, true, true, true, true, true, true, true, true, true, false, false, false]) (fuel := 3) (by kernel_rfl) rfl (by kernel_rfl) (by kernel_rfl) (fun K hK => ?_)
        go_simp
        go_at_call 56
        refine (scline3_any BN.out (by decide) (Nat.le_trans HSZ.out.2 (by decide)) (Nat.le_trans HSZ.out.1 (by decide))).mono ?_
        rintro e w6 ⟨rfl, b6⟩
        first | (refine hK.out _ _ ?_ (fun hHeld => ?_)) | (go_wp2_with fail; refine hK.out _ _ ?_ (fun hHeld => ?_))
        · (try dsimp only); exact ⟨(b6.cell (p := ⟨g, 0, none⟩) HG5.out.2).trans HH5.out.1, (b6.cell (p := ⟨g, 1, none⟩) HG5.out.2).trans HH5.out.2.1, (b6.cell (p := ⟨0, _, none⟩) HG5.out.1).trans HH5.out.2.2⟩
        clear hK K
        try simp only [Act.put, List.setIfInBounds_toArray, List.set_cons_zero, List.set_cons_succ]
        rw [← HLI.out]
        have HH6 := Lib.hid hHeld
        have HB6 := Lib.hid (HB5.out.trans (b6.mono HB5.out.size))
        have OWN6 := Lib.hid (own_below OWN5.out b6)
        have BE6 := Lib.hid (BE5.out.below b6 BE5.out.lt)
        have HG6 : Hid (0 < w6.heap.size ∧ g < w6.heap.size) := Lib.hid ⟨Nat.lt_of_lt_of_le HG5.out.1 b6.size, Nat.lt_of_lt_of_le HG5.out.2 b6.size⟩
        clear HB5 OWN5 HG5 BE5 HH5 b6 hHeld BN
        have hnx := HNX.out
        obtain ⟨LN, hLN⟩ : ∃ q, edgeLine ⟨ea, eb, false⟩ = q := ⟨_, rfl⟩
        rw [hLN] at hnx ⊢
        have HNX2 := Lib.hid hnx
        clear hnx hLN
        have bC : Below w6.heap.size w6 (w6.alloc (.cells #[.string LN] 9)) := (Below.refl _ w6).alloc (Nat.le_refl _) _
        refine rg_next (i := 11) (l := #[true, true, true, true, true, true, true, true, true, true, true, true, false, false]) (fuel := 2) (by kernel_rfl) rfl (by kernel_rfl) (by kernel_rfl) (fun K hK => ?_)
        go_simp
        skip
        first | (refine hK.out _ _ ?_ (fun hHeld => ?_)) | (go_wp2_with fail; refine hK.out _ _ ?_ (fun hHeld => ?_))
        · (try dsimp only); exact ⟨(bC.cell (p := ⟨g, 0, none⟩) HG6.out.2).trans HH6.out.1, (bC.cell (p := ⟨g, 1, none⟩) HG6.out.2).trans HH6.out.2.1, (bC.cell (p := ⟨0, _, none⟩) HG6.out.1).trans HH6.out.2.2⟩
        clear hK K
        try simp only [Act.put, List.setIfInBounds_toArray, List.set_cons_zero, List.set_cons_succ]
        obtain ⟨v7, w7, hrun, own7, hB7, hg7⟩ := sr_more OWN6.out HB6.out HB6.out.size (by omega) LN
        have BE7 := (BE6.out.alloc (.cells #[.string LN] 9)).grown hg7 (own_ne (own_below OWN6.out bC) _ _ _ (BE6.out.alloc (.cells #[.string LN] 9)) (by decide))
        have hn7 : w7.heap[0]? = (w6.alloc (.cells #[.string LN] 9)).heap[0]? := hg7.block _ (by have := HG6.out.1; rw [World.size_alloc]; omega) (fun e => by have h1 := (OWN6.out.lt _ e.symm).1; have h2 := HN.out.1; omega)
        have OWN7 := Lib.hid own7
        have HB7 := Lib.hid hB7
        clear own7 hB7 hg7
        refine rg_next (i := 12) (l := #[true, true, true, true, true, true, true, true, true, true, true, true, true, false]) (fuel := 1) (by kernel_rfl) rfl (by kernel_rfl) (by kernel_rfl) (fun K hK => ?_)
        refine swp_append_any (.tmp 15) (.tmp 26) 45 rfl rfl rfl hrun ?_
        refine hK.out _ _ ?_ (fun hHeld => ?_)
        · (try dsimp only); exact ⟨BE7.cell 0, BE7.cell 1, (World.cell?_of_block hn7).trans hHeld.2.2⟩
        clear hK K
        try simp only [Act.put, List.setIfInBounds_toArray, List.set_cons_zero, List.set_cons_succ]
        refine rg_take (i := 13) (d := some 3) (l := #[true, true, true, true, true, true, true, true, true, true, true, true, true, true]) (fuel := 0) (v := ?_) rfl (by kernel_rfl) (by kernel_rfl) (by kernel_rfl) (by kernel_rfl) (by kernel_rfl) (fun _ _ _ h => h) (by kernel_rfl) ?_ (by assumption) ?_
        rotate_left 1
        · (intro wS hSw; (try dsimp only at hSw); go_simp; try with_reducible rfl)
        try simp only [Act.put, List.setIfInBounds_toArray, List.set_cons_zero, List.set_cons_succ]
        refine wpAnyH_done (by kernel_rfl) ?_ _
        clear hrun hHeld hn7 BE7 BE6 HG6 HH6 HB6 OWN6 bC
        go_wp2_with fail
        go_roundw
        case rel => exact ⟨k + 1, by omega, by go_num, by rw [HNX2.out, List.map_append]; exact OWN7.out, HB7.out⟩
        case measure => simp [intOf]; omega
    · obtain rfl : k = m := by omega
      go_wp2_with fail
      go_ret
      exact ⟨_, rfl, by rw [edgL_len]; exact OWN.out, HB.out⟩
end Go.Proofs.YtnhnphifhkkboaaDoor
namespace Go.Proofs.YtnhnphifhkkboaaDoor
open Go.RowKit Go.Shelf
set_option linter.unusedVariables false
set_option linter.unusedSimpArgs false
set_option maxRecDepth 100000
attribute [local go_sem] Oper.semAt_some
def romW : ByteArray := ⟨#[114, 111, 109]⟩
def hx6 (x : Int) : ByteArray := strOfNums (hexL x 6)
theorem hx6_size (x : Int) : (hx6 x).size = 6 := by
  have h : (hx6 x).data.toList.length = 6 := by unfold hx6; rw [strOf_list]; simp [hexL]
  exact (Array.length_toList (xs := (hx6 x).data)).symm.trans h
def imgLine (z : Nat → Int) (f d k : Nat) : ByteArray := lineB [romW, hx6 ((f : Int) + ((16 * k : Nat) : Int)), joinB (dgL (fun i => z (f + (16 * k + i))) (rwN d k))]
def pieceL (z : Nat → Int) (f d : Nat) : List ByteArray := (rwL d).map fun x => imgLine z f d x.val
def imgLs (z : Nat → Int) (L : List (Nat × Nat)) : List ByteArray := L.flatMap fun p => pieceL z p.1 p.2
def imgL (z : Nat → Int) (n : Nat) : List ByteArray := imgLs z (runs z n)
theorem pieceL_len (z : Nat → Int) (f d : Nat) : (pieceL z f d).length = rwCnt d := by simp [pieceL, rwL_len]
theorem imgLs_take (z : Nat → Int) (L : List (Nat × Nat)) (i : Nat) (h : i < L.length) : imgLs z (L.take (i + 1)) = imgLs z (L.take i) ++ pieceL z (L.getD i (0, 0)).1 (L.getD i (0, 0)).2 := by
  have e : L.getD i (0, 0) = L[i] := by simp [List.getD, h]
  rw [e]
  unfold imgLs
  rw [List.take_add_one, List.getElem?_eq_getElem h, List.flatMap_append]
  simp only [Option.toList_some, List.flatMap_cons, List.flatMap_nil, List.append_nil]
theorem imgLs_le (z : Nat → Int) (n : Nat) : ∀ L : List (Nat × Nat), (∀ x ∈ L, x.2 ≤ n) → (imgLs z L).length ≤ L.length * rwCnt n := by
  intro L
  induction L with
  | nil => intro _; exact Nat.zero_le _
  | cons x L ih =>
    intro h
    have h1 := ih (fun y hy => h y (List.mem_cons_of_mem _ hy))
    have h2 : rwCnt x.2 ≤ rwCnt n := by have := h x (by simp); unfold rwCnt; omega
    unfold imgLs at h1 ⊢
    rw [List.flatMap_cons, List.length_append, pieceL_len, List.length_cons, Nat.add_mul]
    omega
theorem imgL_take_le (z : Nat → Int) (n i : Nat) (hn : n ≤ 1048576) : (imgLs z ((runs z n).take i)).length ≤ 100000000000 := by
  have h1 := imgLs_le z n ((runs z n).take i) (fun x hx => by have := runs_in z n x (List.mem_of_mem_take hx); omega)
  have h2 : ((runs z n).take i).length ≤ 1048576 := by have := runs_len z n; rw [List.length_take]; omega
  have h3 : rwCnt n ≤ 65537 := by unfold rwCnt; omega
  exact Nat.le_trans h1 (Nat.le_trans (Nat.mul_le_mul h2 h3) (by decide))
theorem sr_more2 {w0 w : World} {B n : Nat} {v : Value} {xs : List Value} (own : w.ownsRow B 9 1 v n xs) (hB : Below B w0 w) (hb : B ≤ w.heap.size) (hn : n ≤ 1000000000000) (x : ByteArray) :
    ∃ v' w', (Builtin.append_ #[45, 45] 45 #[v, .slice (some ⟨w.heap.size, 0, none⟩) 1 1]).run Tryd.prog (w.alloc (.cells #[.string x] 9)) = .ok v' w' ∧ w'.ownsRow B 9 1 v' (n + 1) (xs ++ [.string x]) ∧ Below B w0 w' ∧
      (w.alloc (.cells #[.string x] 9)).grownBy w' v.ownBlock := by
  obtain ⟨v', w', hrun, own', gb⟩ := more_new (P := Tryd.prog) (t := 45) (e := 9) (ty := 45) (c := 1) (m := 1) Tryd.underlying45 scstr_inf rfl (by decide) own #[.string x] rfl (fun y hy => by simp at hy; subst hy; rfl) rfl (by omega) (by omega) hb
  exact ⟨v', w', hrun, own', (hB.alloc hb (.cells #[.string x] 9)).grown gb (by simp; omega) (fun i h => (own.lt i h).1), gb⟩
/-- Deferred blocks that hold nothing are left one behind the other. -/
theorem leaves_coll {F : Fence} {n : Nat} {P : Program} {fn : Func} {tmps : Array Value} {R : Ending → World → Prop} (P0 : World → Prop) (B : Nat)
    (hP : ∀ W D o, P0 W → B ≤ D → W.heap[D]? = some o → o.isCells = false → P0 (W.putObj D (.deferred none))) (hfin : ∀ W, P0 W → LeavesInM F n P fn tmps R [] .returning W) :
    ∀ ds : List Nat, ds.Nodup → ∀ W, P0 W → (∀ D ∈ ds, B ≤ D ∧ W.heap[D]? = some (.deferred (some []))) → LeavesInM F n P fn tmps R (ds.map fun D => { target := .collected D, args := #[] }) .returning W
  | [], _, W, h, _ => hfin W h
  | D :: ds, hn, W, h, hd => by
    obtain ⟨h1, h2⟩ := hd D (by simp)
    refine ⟨by simp, .inl ⟨D, _, rfl, run_takeDeferred h2, ?_⟩⟩
    refine leaves_coll P0 B hP hfin ds (List.nodup_cons.1 hn).2 _ (hP W D _ h h1 h2 rfl) (fun E hE => ?_)
    obtain ⟨g1, g2⟩ := hd E (List.mem_cons_of_mem _ hE)
    refine ⟨g1, ?_⟩
    have hne : some E ≠ some D := fun e => by cases e; exact (List.nodup_cons.1 hn).1 hE
    exact ((grownBy_putObj' W D (.deferred none)).block E (Array.getElem?_eq_some_iff.1 g2).1 (fun e => hne e)).trans g2
theorem ownFrom_kpL {α : Type} {n : Nat} {L : List Nat} {w0 : World} (hn : w0.heap.size ≤ n) : OwnFrom n (fun (_ : List α) W1 => Kp L w0 W1) := fun s A B row hs hg hr =>
  ⟨hg.os.trans hs.os, hg.tape.trans hs.tape, hg.output.trans hs.output, Nat.le_trans hs.size hg.size, fun i hi hni => (hg.block i (Nat.lt_of_lt_of_le hi hs.size) fun e => by have := (hr i e.symm).1; omega).trans (hs.block i hi hni)⟩
theorem ownFrom_dfs {α : Type} {n : Nat} {ds : List Nat} (hn : ∀ D ∈ ds, D < n) : OwnFrom n (fun (_ : List α) W1 => ∀ D ∈ ds, W1.heap[D]? = some (.deferred (some []))) := fun s A B row hs hg hr D hD =>
  (hg.block D (Array.getElem?_eq_some_iff.1 (hs D hD)).1 (fun e => by have := (hr D e.symm).1; have := hn D hD; omega)).trans (hs D hD)
/-- Pieces of the call's own, read as a slice. -/
theorem own_prow {w : World} {B m : Nat} {v : Value} {ps : Nat → Pc} (h : w.ownsRow B 108 2 v m (cellsP ps m)) (hp : ∀ i, i < m → PcOk w (ps i)) :
    ∃ A cap, v = .slice A m cap ∧ PRow w A m ps ∧ Typed w A 108 := by
  have h' : w.ownsRow B 108 2 v (List.range m).length ((List.range m).flatMap fun i => [.int .i64 (ps i).at_, .slice (ps i).A (ps i).n (ps i).c]) := by rw [List.length_range]; exact h
  obtain ⟨A, cap, e1, _, _, e4, e5, _, _⟩ := own_list (fun i => [Value.int .i64 (ps i).at_, .slice (ps i).A (ps i).n (ps i).c]) (fun x => rfl) h'
  rw [List.length_range] at e1
  refine ⟨A, cap, e1, fun i hi => ?_, e5⟩
  obtain ⟨ad, a1, a2, a3⟩ := e4 i i (by simp [hi])
  exact ⟨ad, a1, a2, a3 0 (by decide), a3 1 (by decide), hp i hi⟩
theorem prow_kp {w W : World} {lb m : Nat} {A : Option Addr} {ps : Nat → Pc} {z : Nat → Int} {L : List (Nat × Nat)} (R : PRow w A m ps) (hA : Typed w A 108) (hL : m = L.length) (hp : PL w z L ps) {T : TypeId} {cs : Array Value} (hl : Blk w lb T cs) (h1 : T ≠ 108) (h2 : T ≠ 5) (k : Kp [lb] w W) : PRow W A m ps := fun i hi => by
  obtain ⟨ad, a1, a2, a3, a4, a5⟩ := R i hi
  have off : ad.block ∉ [lb] := by
    obtain ⟨C, hC⟩ := hA ad a1
    simp only [List.mem_singleton]
    exact fun e => Blk.ne_ hC hl (fun q => h1 q.symm) e
  refine ⟨ad, a1, Nat.lt_of_lt_of_le a2 k.size, ?_, ?_, a5.1, a5.2.1, a5.2.2.1, ?_⟩
  · rw [k.cell (by rw [block_of_add]; exact a2) (by rw [block_of_add]; exact off)]; exact a3
  · rw [k.cell (by rw [block_of_add]; exact a2) (by rw [block_of_add]; exact off)]; exact a4
  · obtain ⟨g, C, hg, hC⟩ := (hp i (by omega)).2.2.2.2
    refine a5.2.2.2.kp k (fun ad e => ?_)
    rw [hg] at e; cases e
    simp only [List.mem_singleton]
    exact fun e => Blk.ne_ hC hl (fun q => h2 q.symm) e
/-- Between two pieces. -/
def ImI (w w2 : World) (z : Nat → Int) (A : Option Addr) (n c lb cnt cap : Nat) (AP : Option Addr) (L : List (Nat × Nat)) (i : Nat) (a : Act) (W : World) : Prop :=
  i ≤ cnt ∧ Kp [lb] w2 W ∧ (∃ v, W.ownsRow w2.heap.size 9 1 v (imgLs z (L.take i)).length ((imgLs z (L.take i)).map Value.string) ∧ Blk W lb 45 #[v]) ∧
  ∃ ds : List Nat, ds.Nodup ∧ (∀ D ∈ ds, w2.heap.size ≤ D ∧ W.heap[D]? = some (.deferred (some []))) ∧ ∃ u6 u7 u8 u9 u18 u19 u20 u21 u22 u23 u24 u25 u26 u27 u28 u29 u30 u31 u32 u33 u34 u35 u36 u37 u38 u39 u40 : Value, a = { tmps := #[.slice A n c, undef, .slice none 0 0, .pointer (some ⟨lb, 0, none⟩), .slice AP cnt cap, .int .i64 0, u6, u7, u8, u9, .tuple #[.slice AP cnt cap, .int .i64 0], .slice A n c, .tuple #[.slice AP cnt cap, .int .i64 0], .slice AP cnt cap, .int .i64 0, .slice AP cnt cap, .int .i64 (cnt : Int), .int .i64 (i : Int), u18, u19, u20, u21, u22, u23, u24, u25, u26, u27, u28, u29, u30, u31, u32, u33, u34, u35, u36, u37, u38, u39, u40], defers := ds.map fun D => { target := .collected D, args := #[] } }
set_option maxHeartbeats 32000000 in
theorem scimage_any {w : World} {A : Option Addr} {n c : Nat} {z : Nat → Int} (hnc : n ≤ c) (hn : n ≤ 1048576) (hE : imgE n = 0) (R : IRow w .u8 A n z) :
    Calls Tryd.prog 58 #[.slice A n c] w fun e w' => ∃ v, e = .returned v ∧ w'.ownsRow w.heap.size 9 1 v (imgL z n).length ((imgL z n).map Value.string) ∧ Below w.heap.size w w' := by
  have HP := Lib.hid (fun (W : World) (hb : Below w.heap.size w W) => pieces_any A n c z hnc hn hE (R.keep hb))
  have HLE := Lib.hid (fun i => imgL_take_le z n i hn)
  have HRI := Lib.hid (fun i h => runs_at z n i h)
  obtain ⟨L, hL⟩ : ∃ L, runs z n = L := ⟨_, rfl⟩
  have HIL : Hid (imgL z n = imgLs z L) := Lib.hid (by rw [← hL]; rfl)
  rw [hL] at HP HLE HRI
  obtain ⟨cnt, hcnt⟩ : ∃ q, L.length = q := ⟨_, rfl⟩
  have hcn : cnt ≤ 1048576 := by have := runs_len z n; rw [hL] at this; omega
  rw [hcnt] at HP HRI
  have HCN := Lib.hid hcnt
  clear R hE hL hcnt
  refine (callsIn_wide (n := 6)).1 ?_
  refine callsIn_of_wp_marks Tryd.func58 rfl trivial ?_ rfl
  simp only [Tryd.ntmps58, List.size_toArray, List.length_cons, List.length_nil, Nat.reduceAdd, Nat.reduceSub, Array.replicate_succ, Array.replicate_zero, List.push_toArray, List.append_toArray, List.nil_append, List.cons_append]
  gi_wp2
  refine ⟨trivial, callsIn_wide.2 ?_⟩
  refine (HP.out _ ((Below.refl _ w).alloc (Nat.le_refl _) _)).mono ?_
  rintro e w2 ⟨⟨v, ps, rfl, own, hPL⟩, hb2⟩
  obtain ⟨AP, cap, rfl, PR, TP⟩ := own_prow own (fun i hi => (hPL i (by rw [HCN.out]; exact hi)).2.2.2.1)
  have hBl : Below w.heap.size w w2 := ((Below.refl _ w).alloc (Nat.le_refl _) _).trans (hb2.mono (by simp))
  have bl : Blk w2 w.heap.size 45 #[.slice none 0 0] := (Blk.new w _ _).below hb2 (by simp)
  have hlt2 : w.heap.size < w2.heap.size := bl.lt
  obtain ⟨lb, hlb⟩ : ∃ q, w.heap.size = q := ⟨_, rfl⟩
  have HLB := Lib.hid hlb
  have HW2 := Lib.hid (And.intro hBl bl)
  rw [hlb] at HW2 hlt2 ⊢
  have HPR := Lib.hid (And.intro PR (And.intro TP hPL))
  have HLT := Lib.hid hlt2
  clear PR TP hPL own hb2 hBl bl hlt2 hlb HP
  gi_wp2
  refine wpIn_loop (fun a W => ∃ i, ImI w w2 z A n c lb cnt cap AP L i a W) (fun a W => cnt - (intOf (a.tmps.getD 17 undef)).toNat) ⟨0, Nat.zero_le _, Kp.refl _ _, ⟨_, World.ownsRow_nil _ _ _ _, HW2.out.2⟩, [], List.nodup_nil, (fun D hD => by simp at hD), undef, undef, undef, undef, undef, undef, undef, undef, undef, undef, undef, undef, undef, undef, undef, undef, undef, undef, undef, undef, undef, undef, undef, undef, undef, undef, undef, rfl⟩ ?_
  rintro a W ⟨i, hi, hk, ⟨v, own, kl⟩, ds, hnd, hds, u6, u7, u8, u9, u18, u19, u20, u21, u22, u23, u24, u25, u26, u27, u28, u29, u30, u31, u32, u33, u34, u35, u36, u37, u38, u39, u40, rfl⟩
  have HW := Lib.hid (And.intro hk (And.intro own (And.intro kl (And.intro hnd hds))))
  clear hk own kl hnd hds
  by_cases hlt : i < cnt
  · obtain ⟨ad, rfl, a2, a3, a4, ok⟩ := prow_kp HPR.out.1 HPR.out.2.1 HCN.out.symm HPR.out.2.2 HW2.out.2 (by decide) (by decide) HW.out.1 i hlt
    obtain ⟨p1, p2, p3, _, _⟩ := HPR.out.2.2 i (by rw [HCN.out]; exact hlt)
    have hfd := HRI.out i hlt
    have htk := imgLs_take z L i (by rw [HCN.out]; exact hlt)
    obtain ⟨⟨f, d⟩, hfde⟩ : ∃ x, L.getD i (0, 0) = x := ⟨_, rfl⟩
    rw [hfde] at p1 p2 p3 hfd htk
    dsimp only at p1 p2 p3 hfd htk
    have hR : IRow W .u8 (ps i).A d (fun j => z (f + j)) := by rw [← p2, ← p3]; exact ok.2.2.2
    have hpc : d ≤ (ps i).c := by rw [← p2]; exact ok.2.1
    rw [p1] at a3
    rw [p2] at a4
    have a4 := cell_next a4
    have HIR0 := fun W' (hk' : Kp [lb] w2 W') => (show IRow W' .u8 (ps i).A d (fun j => z (f + j)) by obtain ⟨_, _, _, _, _, ok'⟩ := prow_kp HPR.out.1 HPR.out.2.1 HCN.out.symm HPR.out.2.2 HW2.out.2 (by decide) (by decide) hk' i hlt; rw [← p2, ← p3]; exact ok'.2.2.2)
    clear ok p1 p2 p3 hfde
    obtain ⟨pA, hpA⟩ : ∃ q, (ps i).A = q := ⟨_, rfl⟩
    obtain ⟨pc, hpcc⟩ : ∃ q, (ps i).c = q := ⟨_, rfl⟩
    rw [hpA] at a4 hR HIR0
    have HIR := Lib.hid HIR0
    clear HIR0
    rw [hpcc] at a4 hpc
    have HRp := Lib.hid hR
    have HTK := Lib.hid htk
    have HFD := Lib.hid hfd
    clear hpA hpcc hR htk hfd
    gi_wp2
    refine ⟨trivial, callsIn_wide.2 ?_⟩
    have bp : Blk (W.alloc (.cells #[.int .i64 (f : Int), .slice pA d pc] 108)) W.heap.size 108 #[.int .i64 (f : Int), .slice pA d pc] := Blk.new _ _ _
    have hbW : Below W.heap.size W (W.alloc (.cells #[.int .i64 (f : Int), .slice pA d pc] 108)) := (Below.refl _ W).alloc (Nat.le_refl _) _
    obtain ⟨w3, hw3⟩ : ∃ q, W.alloc (.cells #[.int .i64 (f : Int), .slice pA d pc] 108) = q := ⟨_, rfl⟩
    have hs3 : w3.heap.size = W.heap.size + 1 := by rw [← hw3]; simp
    rw [hw3] at bp hbW ⊢
    clear hw3 a3 a4
    refine (scrows_any pA d pc w3).mono ?_
    rintro e w4 ⟨rfl, hw4⟩
    have hb34 : Below w3.heap.size w3 w4 := hw4 ▸ (Below.refl _ w3).alloc (Nat.le_refl _) _
    have hbt : Blk w4 w3.heap.size 22 #[.slice pA d pc] := hw4 ▸ Blk.new _ _ _
    have hs4 : w4.heap.size = W.heap.size + 2 := by rw [hw4]; simp; omega
    have hb4 : Below W.heap.size W w4 := hbW.trans (hb34.mono hbW.size)
    have bp4 := bp.below hb34 bp.lt
    rw [hs3] at hbt ⊢
    clear hw4 hb34 bp hbW hs3
    obtain ⟨pb, hpb⟩ : ∃ q, W.heap.size = q := ⟨_, rfl⟩
    obtain ⟨tb, htb⟩ : ∃ q, pb + 1 = q := ⟨_, rfl⟩
    have hR4 := HRp.out.keep hb4
    have hk4 : Kp [lb] w2 w4 := HW.out.1.trans (Kp.of_below (L := []) hb4) (by simp)
    have hkl4 := HW.out.2.2.1.below hb4 HW.out.2.2.1.lt
    have hown4 := own_below HW.out.2.1 hb4
    have hds4 : ∀ D ∈ ds, w4.heap[D]? = some (.deferred (some [])) := fun D hD => (hb4.block D (Array.getElem?_eq_some_iff.1 (HW.out.2.2.2.2 D hD).2).1).trans (HW.out.2.2.2.2 D hD).2
    have hdlt : ∀ D ∈ ds, D < pb := fun D hD => by rw [← hpb]; exact (Array.getElem?_eq_some_iff.1 (HW.out.2.2.2.2 D hD).2).1
    have hwp : w2.heap.size ≤ pb := by rw [← hpb]; exact HW.out.1.size
    rw [hpb] at hbt bp4 hs4 ⊢
    rw [htb] at hbt ⊢
    have HN := Lib.hid (And.intro hwp (And.intro htb (And.intro hs4 hdlt)))
    have HI4 := Lib.hid (And.intro hown4 (And.intro hkl4 (And.intro bp4 (And.intro hbt (And.intro hds4 hk4)))))
    have HR4 := Lib.hid hR4
    have HDW := Lib.hid (And.intro HW.out.2.2.2.1 HW.out.2.2.2.2)
    clear hwp htb hs4 hdlt hown4 hkl4 bp4 hbt hds4 hk4 hR4 hpb hb4 HW HRp
    obtain ⟨X, hX⟩ : ∃ X, imgLs z (L.take i) = X := ⟨_, rfl⟩
    have hXl := HLE.out i
    rw [hX] at HI4 HTK hXl
    have HXX := Lib.hid hX
    have hdn : d ≤ 1048576 := by have := HFD.out; omega
    have hfn : f + d ≤ 1048576 := by have := HFD.out; omega
    clear hX
    gi_wp2
    refine wpIn_rangeFunc_ownF rfl (by omega) (gf := 130) (lb := #[.pointer (some ⟨tb, 0, none⟩)]) rfl trivial (enters_of Tryd.func130 (by kernel_rfl) rfl)
      (rows_stops 5 (by omega) pA d pc hpc (by omega) tb w4 HI4.out.2.2.2.1) (fun h k hb => k (h hb)) (fun W l o o' _ ho hc _ h => rblk_put h ho hc) (Below.refl _ _) (fun _ => rfl)
      (fun (pre : List (Fin (rwCnt d))) W1 => ((∃ v, W1.ownsRow w2.heap.size 9 1 v (X.length + pre.length) ((X ++ pre.map fun x => imgLine z f d x.val).map Value.string) ∧ Blk W1 lb 45 #[v]) ∧ Blk W1 pb 108 #[.int .i64 (f : Int), .slice pA d pc] ∧ Blk W1 tb 22 #[.slice pA d pc]) ∧ (∀ D ∈ ds, W1.heap[D]? = some (.deferred (some []))) ∧ Kp [lb] w2 W1)
      (fun c pre W1 => False)
      (OwnFrom.and (I := fun (pre : List (Fin (rwCnt d))) W1 => (∃ v, W1.ownsRow w2.heap.size 9 1 v (X.length + pre.length) ((X ++ pre.map fun x => imgLine z f d x.val).map Value.string) ∧ Blk W1 lb 45 #[v]) ∧ Blk W1 pb 108 #[.int .i64 (f : Int), .slice pA d pc] ∧ Blk W1 tb 22 #[.slice pA d pc]) (fun s M Y row hs hg hr => by
        obtain ⟨⟨v, h1, h2⟩, h3, h4⟩ := hs
        exact ⟨⟨v, own_from h1 hg (fun r e => (hr r e).2), rblk_own h2 hg (fun r e => (hr r e).2)⟩, rblk_own h3 hg (fun r e => (hr r e).2), rblk_own h4 hg (fun r e => (hr r e).2)⟩)
        (OwnFrom.and (ownFrom_dfs (fun D hD => by have := HN.out.2.2.2 D hD; have := HN.out.2.2.1; omega)) (ownFrom_kpL (by have := HN.out.1; have := HN.out.2.2.1; omega))))
      (fun c s X Y row hs hg hr => hs)
      ⟨⟨⟨_, by simp only [List.length_nil, Nat.add_zero, List.map_nil, List.append_nil]; exact HI4.out.1, HI4.out.2.1⟩, HI4.out.2.2.1, HI4.out.2.2.2.1⟩, HI4.out.2.2.2.2.1, HI4.out.2.2.2.2.2⟩
      (fun x => { tmps := #[.slice A n c, undef, .slice none 0 0, .pointer (some ⟨lb, 0, none⟩), .slice (some ad) cnt cap, .int .i64 0, u6, .pointer (some ⟨pb, 0, none⟩), .int .i64 ((16 * x.val : Nat) : Int), .slice (rwP pA pc x.val) (rwN d x.val) (pc - 16 * x.val), .tuple #[.slice (some ad) cnt cap, .int .i64 0], .slice A n c, .tuple #[.slice (some ad) cnt cap, .int .i64 0], .slice (some ad) cnt cap, .int .i64 0, .slice (some ad) cnt cap, .int .i64 (cnt : Int), .int .i64 (i : Int), .bool true, .pointer (some (ad.add (i * 2))), .agg #[.int .i64 (f : Int), .slice pA d pc], .pointer (some ⟨pb, 1, none⟩), .slice pA d pc, .func (.func 130) #[] #[.pointer (some ⟨tb, 0, none⟩)], .int .i64 ((16 * x.val : Nat) : Int), .slice (rwP pA pc x.val) (rwN d x.val) (pc - 16 * x.val), u26, u27, u28, u29, u30, u31, u32, u33, u34, u35, u36, u37, u38, u39, u40], defers := [] }) ?assign ?body ?done ?stop
    case assign =>
      intro l x W1 K hK
      unfold rwX
      gi_wp2
      exact hK
    case body =>
      rintro l pre x W1 ⟨⟨⟨v, own, kl⟩, kp, kt⟩, hds, hkk⟩ hlt
      obtain ⟨k, hk⟩ := x
      have h16 := rw_lt.1 hk
      have hcn2 : rwCnt d ≤ 1048576 := by unfold rwCnt; omega
      have c0 : W1.cell? ⟨lb, 0, none⟩ = some v := kl.cell 0
      have c1 : W1.cell? ⟨pb, 0, none⟩ = some (.int .i64 (f : Int)) := kp.cell 0
      have hrw : rwN d k ≤ 16 := by unfold rwN; omega
      have hH6 := fun W => hex_any ((f : Int) + ((16 * k : Nat) : Int)) 6 W (by omega) (by omega)
      have h6 : strOfNums (hexL ((f : Int) + ((16 * k : Nat) : Int)) (held8 6)) = hx6 ((f : Int) + ((16 * k : Nat) : Int)) := rfl
      rw [h6] at hH6
      have h6s := hx6_size ((f : Int) + ((16 * k : Nat) : Int))
      have HLI : Hid (imgLine z f d k = lineB [romW, hx6 ((f : Int) + ((16 * k : Nat) : Int)), joinB (dgL (fun i => z (f + (16 * k + i))) (rwN d k))]) := Lib.hid rfl
      have HD := Lib.hid (fun (W : World) (hb : Kp [lb] w2 W) => scdigits_any (c := pc - 16 * k) (by omega) (row_at (HIR.out W hb) h16 hpc))
      have hJs : (joinB (dgL (fun i => z (f + (16 * k + i))) (rwN d k))).size ≤ 1000000 := Nat.le_trans (dgJ_le _ _) (by omega)
      obtain ⟨J, hJ⟩ : ∃ J, joinB (dgL (fun i => z (f + (16 * k + i))) (rwN d k)) = J := ⟨_, rfl⟩
      obtain ⟨H6, hh6⟩ : ∃ q, hx6 ((f : Int) + ((16 * k : Nat) : Int)) = q := ⟨_, rfl⟩
      rw [hJ] at HD HLI hJs
      rw [hh6] at hH6 HLI h6s
      obtain ⟨at6, hat⟩ : ∃ q : Int, (f : Int) + ((16 * k : Nat) : Int) = q := ⟨_, rfl⟩
      have q0 : 0 ≤ at6 := by omega
      have q1 : at6 ≤ 2000000 := by omega
      obtain ⟨k16, hk16⟩ : ∃ q : Int, ((16 * k : Nat) : Int) = q := ⟨_, rfl⟩
      rw [hk16] at hat
      rw [hk16, hat] at hH6
      have e32 : IntKind.u32.wrap ((f : Int) + k16) = at6 := by rw [hat]; exact IntWalk.u32_in _ (by omega)
      have e64 : IntKind.i64.wrap ((f : Int) + k16) = at6 := by rw [hat]; exact IntWalk.i64_in _ (by omega)
      have e33 : IntKind.u32.wrap at6 = at6 := IntWalk.u32_in _ (by omega)
      have e65 : IntKind.i64.wrap at6 = at6 := IntWalk.i64_in _ (by omega)
      rw [hk16]
      have HSZ := Lib.hid (And.intro hJs h6s)
      have HH6 := Lib.hid hH6
      have OWN1 := Lib.hid own
      have KL1 := Lib.hid kl
      have KPc1 := Lib.hid kp
      have KT1 := Lib.hid kt
      have KK1 := Lib.hid hkk
      have HDS := Lib.hid hds
      clear own kl kp kt hkk hds hJ hJs hh6 h6s hH6 h6 hrw
      gi_wp2
      refine rz_begin (S := fun w' => w'.cell? ⟨lb, 0, none⟩ = some v ∧ w'.cell? ⟨pb, 0, none⟩ = some (.int .i64 (f : Int))) 13 14 #[false, false, false, false, false, false, false, false, false, false, false, false, false, false] (by kernel_rfl) (by kernel_rfl) (by kernel_rfl) ?_ (fun hHeld => ?_)
      · exact ⟨c0, c1⟩
      refine rz_take (i := 0) (d := some 26) (l := #[true, false, false, false, false, false, false, false, false, false, false, false, false, false]) (fuel := 13) (v := ?_) (fun _ => trivial) (by kernel_rfl) rfl (by kernel_rfl) (by kernel_rfl) (by kernel_rfl) (by kernel_rfl) (by kernel_rfl) (by kernel_rfl) (by kernel_rfl) (by kernel_rfl) (fun _ _ _ h => h) (by kernel_rfl) ?_ (by assumption) ?_
      rotate_left 1
      · (intro wS hSw; (try dsimp only at hSw); go_simp; try with_reducible rfl)
      try simp only [Act.put, List.setIfInBounds_toArray, List.set_cons_zero, List.set_cons_succ]
      refine rz_take (i := 1) (d := some 27) (l := #[true, true, false, false, false, false, false, false, false, false, false, false, false, false]) (fuel := 12) (v := ?_) (fun _ => trivial) (by kernel_rfl) rfl (by kernel_rfl) (by kernel_rfl) (by kernel_rfl) (by kernel_rfl) (by kernel_rfl) (by kernel_rfl) (by kernel_rfl) (by kernel_rfl) (fun _ _ _ h => h) (by kernel_rfl) ?_ (by assumption) ?_
      rotate_left 1
      · (intro wS hSw; (try dsimp only at hSw); go_simp; try with_reducible rfl)
      try simp only [Act.put, List.setIfInBounds_toArray, List.set_cons_zero, List.set_cons_succ]
      refine rz_take (i := 2) (d := some 28) (l := #[true, true, true, false, false, false, false, false, false, false, false, false, false, false]) (fuel := 11) (v := ?_) (fun _ => trivial) (by kernel_rfl) rfl (by kernel_rfl) (by kernel_rfl) (by kernel_rfl) (by kernel_rfl) (by kernel_rfl) (by kernel_rfl) (by kernel_rfl) (by kernel_rfl) (fun _ _ _ h => h) (by kernel_rfl) ?_ (by assumption) ?_
      rotate_left 1
      · (intro wS hSw; (try dsimp only at hSw); go_simp; try with_reducible rfl)
      try simp only [Act.put, List.setIfInBounds_toArray, List.set_cons_zero, List.set_cons_succ]
      refine rz_take (i := 3) (d := some 29) (l := #[true, true, true, true, false, false, false, false, false, false, false, false, false, false]) (fuel := 10) (v := ?_) (fun _ => trivial) (by kernel_rfl) rfl (by kernel_rfl) (by kernel_rfl) (by kernel_rfl) (by kernel_rfl) (by kernel_rfl) (by kernel_rfl) (by kernel_rfl) (by kernel_rfl) (fun _ _ _ h => h) (by kernel_rfl) ?_ (by assumption) ?_
      rotate_left 1
      · (intro wS hSw; (try dsimp only at hSw); go_simp; try with_reducible rfl)
      try simp only [Act.put, List.setIfInBounds_toArray, List.set_cons_zero, List.set_cons_succ]
      refine rz_take (i := 4) (d := some 30) (l := #[true, true, true, true, true, false, false, false, false, false, false, false, false, false]) (fuel := 9) (v := ?_) (fun _ => trivial) (by kernel_rfl) rfl (by kernel_rfl) (by kernel_rfl) (by kernel_rfl) (by kernel_rfl) (by kernel_rfl) (by kernel_rfl) (by kernel_rfl) (by kernel_rfl) (fun _ _ _ h => h) (by kernel_rfl) ?_ (by assumption) ?_
      rotate_left 1
      · (intro wS hSw; (try dsimp only at hSw); go_simp; try with_reducible rfl)
      try simp only [Act.put, List.setIfInBounds_toArray, List.set_cons_zero, List.set_cons_succ]
      refine rz_take (i := 5) (d := some 31) (l := #[true, true, true, true, true, true, false, false, false, false, false, false, false, false]) (fuel := 8) (v := ?_) (fun _ => trivial) (by kernel_rfl) rfl (by kernel_rfl) (by kernel_rfl) (by kernel_rfl) (by kernel_rfl) (by kernel_rfl) (by kernel_rfl) (by kernel_rfl) (by kernel_rfl) (fun _ _ _ h => h) (by kernel_rfl) ?_ (by assumption) ?_
      rotate_left 1
      · (intro wS hSw; (try dsimp only at hSw); go_simp; try with_reducible rfl)
      try simp only [Act.put, List.setIfInBounds_toArray, List.set_cons_zero, List.set_cons_succ]
      refine rz_take (i := 7) (d := some 33) (l := #[true, true, true, true, true, true, false, true, false, false, false, false, false, false]) (fuel := 7) (v := ?_) (fun _ => trivial) (by kernel_rfl) rfl (by kernel_rfl) (by kernel_rfl) (by kernel_rfl) (by kernel_rfl) (by kernel_rfl) (by kernel_rfl) (by kernel_rfl) (by kernel_rfl) (fun _ _ _ h => h) (by kernel_rfl) ?_ (by assumption) ?_
      rotate_left 1
      · (intro wS hSw; (try dsimp only at hSw); go_simp; try with_reducible rfl)
      try simp only [Act.put, List.setIfInBounds_toArray, List.set_cons_zero, List.set_cons_succ]
      have OT1 : Hid (KeepsOthers W1 W1.drew) := Lib.hid (KeepsOthers.drew W1)
      have OWN2 := Lib.hid (own_below OWN1.out (Below.refl _ W1).drew)
      have KL2 := Lib.hid KL1.out.drew_
      have KPc2 := Lib.hid KPc1.out.drew_
      have KT2 := Lib.hid KT1.out.drew_
      have KK2 := Lib.hid KK1.out.drew
      have OT2 := OT1
      clear OWN1 KL1 KPc1 KT1 KK1 OT1 c0 c1 hHeld
      generalize World.drew W1 = wD at *
      refine rz_last (i := 6) (l := #[true, true, true, true, true, true, true, true, false, false, false, false, false, false]) (fuel := 6) (by kernel_rfl) rfl (by kernel_rfl) (by kernel_rfl) (fun K hK => ?_)
      unfold Oper.wpIn
      refine ⟨fun _ _ => trivial, ?_⟩
      go_simp
      refine (CallsIn.inRound l (callsIn_wide.2 (HH6.out _))).mono ?_
      rintro e wE ⟨rfl, bE⟩
      refine hK.out _ _ ?_ (fun hHeld => ?_)
      · (try dsimp only); intro hZ; exact ⟨(KL2.out.below bE KL2.out.lt).cell 0, (KPc2.out.below bE KPc2.out.lt).cell 0⟩
      clear hK K
      try simp only [Act.put, List.setIfInBounds_toArray, List.set_cons_zero, List.set_cons_succ]
      have OWN3 := Lib.hid (own_below OWN2.out bE)
      have KL3 := Lib.hid (KL2.out.below bE KL2.out.lt)
      have KPc3 := Lib.hid (KPc2.out.below bE KPc2.out.lt)
      have KT3 := Lib.hid (KT2.out.below bE KT2.out.lt)
      have KK3 := Lib.hid (KK2.out.trans (Kp.of_below (L := []) bE) (by simp))
      have OT3 := Lib.hid (OT2.out.trans (keepsOthers_below bE))
      clear OWN2 KL2 KPc2 KT2 KK2 OT2 bE hHeld HH6
      refine rz_last (i := 8) (l := #[true, true, true, true, true, true, true, true, true, false, false, false, false, false]) (fuel := 5) (by kernel_rfl) rfl (by kernel_rfl) (by kernel_rfl) (fun K hK => ?_)
      unfold Oper.wpIn
      refine ⟨fun _ _ => trivial, ?_⟩
      go_simp
      refine (CallsIn.inRound l (callsIn_wide.2 (HD.out _ KK3.out))).mono ?_
      rintro e wF ⟨rfl, bF⟩
      refine hK.out _ _ ?_ (fun hHeld => ?_)
      · (try dsimp only); intro hZ; exact ⟨(KL3.out.below bF KL3.out.lt).cell 0, (KPc3.out.below bF KPc3.out.lt).cell 0⟩
      clear hK K
      try simp only [Act.put, List.setIfInBounds_toArray, List.set_cons_zero, List.set_cons_succ]
      have OWN4 := Lib.hid (own_below OWN3.out bF)
      have KL4 := Lib.hid (KL3.out.below bF KL3.out.lt)
      have KPc4 := Lib.hid (KPc3.out.below bF KPc3.out.lt)
      have KT4 := Lib.hid (KT3.out.below bF KT3.out.lt)
      have KK4 := Lib.hid (KK3.out.trans (Kp.of_below (L := []) bF) (by simp))
      have OT4 := Lib.hid (OT3.out.trans (keepsOthers_below bF))
      clear OWN3 KL3 KPc3 KT3 KK3 OT3 bF hHeld HD
      have bA : Below wF.heap.size wF (wF.alloc (.cells #[.string romW, .string H6, .string J] 9)) := (Below.refl _ wF).alloc (Nat.le_refl _) _
      have bN := Blk.new wF 9 #[.string romW, .string H6, .string J]
      have hrm : romW = (⟨#[114, 111, 109]⟩ : ByteArray) := rfl
      rw [hrm] at bA bN
      refine rz_last (i := 9) (l := #[true, true, true, true, true, true, true, true, true, true, false, false, false, false]) (fuel := 4) (by kernel_rfl) rfl (by kernel_rfl) (by kernel_rfl) (fun K hK => ?_)
      unfold Oper.wpIn
      refine ⟨fun _ _ => trivial, ?_⟩
      go_simp
      refine hK.out _ _ ?_ (fun hHeld => ?_)
      · (try dsimp only); intro hZ; exact ⟨(KL4.out.below bA KL4.out.lt).cell 0, (KPc4.out.below bA KPc4.out.lt).cell 0⟩
      clear hK K
      try simp only [Act.put, List.setIfInBounds_toArray, List.set_cons_zero, List.set_cons_succ]
      have OWN5 := Lib.hid (own_below OWN4.out bA)
      have KL5 := Lib.hid (KL4.out.below bA KL4.out.lt)
      have KPc5 := Lib.hid (KPc4.out.below bA KPc4.out.lt)
      have KT5 := Lib.hid (KT4.out.below bA KT4.out.lt)
      have KK5 := Lib.hid (KK4.out.trans (Kp.of_below (L := []) bA) (by simp))
      have OT5 := Lib.hid (OT4.out.trans (keepsOthers_below bA))
      have BN := Lib.hid bN
      clear OWN4 KL4 KPc4 KT4 KK4 OT4 bA bN hHeld
      generalize World.alloc wF _ = wG at *
      generalize wF.heap.size = gF at *
      refine rz_last (i := 10) (l := #[true, true, true, true, true, true, true, true, true, true, true, false, false, false]) (fuel := 3) (by kernel_rfl) rfl (by kernel_rfl) (by kernel_rfl) (fun K hK => ?_)
      unfold Oper.wpIn
      refine ⟨fun _ _ => trivial, ?_⟩
      go_simp
      refine (CallsIn.inRound l (callsIn_wide.2 (scline3_any BN.out (by decide) (Nat.le_trans (Nat.le_of_eq HSZ.out.2) (by decide)) HSZ.out.1))).mono ?_
      rintro e wH ⟨rfl, bH⟩
      refine hK.out _ _ ?_ (fun hHeld => ?_)
      · (try dsimp only); intro hZ; exact ⟨(KL5.out.below bH KL5.out.lt).cell 0, (KPc5.out.below bH KPc5.out.lt).cell 0⟩
      clear hK K
      try simp only [Act.put, List.setIfInBounds_toArray, List.set_cons_zero, List.set_cons_succ]
      have OWN6 := Lib.hid (own_below OWN5.out bH)
      have KL6 := Lib.hid (KL5.out.below bH KL5.out.lt)
      have KPc6 := Lib.hid (KPc5.out.below bH KPc5.out.lt)
      have KT6 := Lib.hid (KT5.out.below bH KT5.out.lt)
      have KK6 := Lib.hid (KK5.out.trans (Kp.of_below (L := []) bH) (by simp))
      have OT6 := Lib.hid (OT5.out.trans (keepsOthers_below bH))
      clear OWN5 KL5 KPc5 KT5 KK5 OT5 bH hHeld BN
      rw [← hrm, ← HLI.out]
      obtain ⟨LN, hLN⟩ : ∃ q, imgLine z f d k = q := ⟨_, rfl⟩
      have HLN := Lib.hid hLN
      rw [hLN]
      clear hLN hrm
      have bC : Below wH.heap.size wH (wH.alloc (.cells #[.string LN] 9)) := (Below.refl _ wH).alloc (Nat.le_refl _) _
      refine rz_last (i := 11) (l := #[true, true, true, true, true, true, true, true, true, true, true, true, false, false]) (fuel := 2) (by kernel_rfl) rfl (by kernel_rfl) (by kernel_rfl) (fun K hK => ?_)
      unfold Oper.wpIn
      refine ⟨fun _ _ => trivial, ?_⟩
      go_simp
      refine hK.out _ _ ?_ (fun hHeld => ?_)
      · (try dsimp only); intro hZ; exact ⟨(KL6.out.below bC KL6.out.lt).cell 0, (KPc6.out.below bC KPc6.out.lt).cell 0⟩
      clear hK K
      try simp only [Act.put, List.setIfInBounds_toArray, List.set_cons_zero, List.set_cons_succ]
      obtain ⟨v7, w7, hrun, own7, hB7, hg7⟩ := sr_more2 OWN6.out (Below.refl _ wH) KK6.out.size (by omega) LN
      obtain ⟨b7, c7, rfl⟩ := rown_form own7 (by omega)
      have ownC := own_below OWN6.out bC
      have KL7 := Lib.hid ((KL6.out.below bC KL6.out.lt).grown hg7 (own_ne ownC _ _ _ (KL6.out.below bC KL6.out.lt) (by decide)))
      have KPc7 := Lib.hid ((KPc6.out.below bC KPc6.out.lt).grown hg7 (own_ne ownC _ _ _ (KPc6.out.below bC KPc6.out.lt) (by decide)))
      have KT7 := Lib.hid ((KT6.out.below bC KT6.out.lt).grown hg7 (own_ne ownC _ _ _ (KT6.out.below bC KT6.out.lt) (by decide)))
      have KK7 := Lib.hid (Kp.trans (KK6.out.trans (Kp.of_below (L := []) bC) (by simp)) (Kp.of_grown (L := v.ownBlock.toList) hg7 (fun q hq => by simp [hq])) (fun q hq => .inr (OWN6.out.lt q (by simpa using hq)).1))
      have OT7 := Lib.hid ((OT6.out.trans (keepsOthers_below bC)).trans (KeepsOthers.of_grownBy hg7 (own_cells ownC)))
      have OWN7 := Lib.hid own7
      clear OWN6 KL6 KPc6 KT6 KK6 OT6 own7 hB7 hg7 bC ownC hHeld
      refine rz_last (i := 12) (l := #[true, true, true, true, true, true, true, true, true, true, true, true, true, false]) (fuel := 1) (by kernel_rfl) rfl (by kernel_rfl) (by kernel_rfl) (fun K hK => ?_)
      refine wpIn_append_any (.tmp 26) (.tmp 37) 45 rfl rfl rfl hrun ?_
      refine hK.out _ _ ?_ (fun hHeld => ?_)
      · (try dsimp only); intro hZ; exact ⟨KL7.out.cell 0, KPc7.out.cell 0⟩
      clear hK K
      try simp only [Act.put, List.setIfInBounds_toArray, List.set_cons_zero, List.set_cons_succ]
      clear hrun hHeld
      have d0 : w7.cell? ⟨lb, 0, none⟩ = some v := KL7.out.cell 0
      have y0 : w7.frozen? ⟨lb, 0, none⟩ = false := KL7.out.frozen 0
      refine rz_last (i := 13) (l := #[true, true, true, true, true, true, true, true, true, true, true, true, true, true]) (fuel := 0) (by kernel_rfl) rfl (by kernel_rfl) (by kernel_rfl) (fun K hK => ?_)
      unfold Oper.wpIn
      refine ⟨fun _ _ => trivial, ?_⟩
      go_simp
      refine hK.out _ _ ?_ (fun hHeld => ?_)
      · (try dsimp only); intro hZ; exact absurd hZ (by decide)
      clear hK K
      try simp only [Act.put, List.setIfInBounds_toArray, List.set_cons_zero, List.set_cons_succ]
      clear hHeld d0 y0
      refine rz_done (by kernel_rfl) ?_ _
      have hlp : pb ≠ lb := fun e => by have := HN.out.1; have := HLT.out; omega
      have hlt' : tb ≠ lb := fun e => by have := HN.out.1; have := HLT.out; have := HN.out.2.1; omega
      have OWN8 := own_kp OWN7.out ((Kp.refl [lb] w7).setCell (p := ⟨lb, 0, none⟩) (.inl (by simp)) (.slice (some ⟨b7, 0, none⟩) (X.length + pre.length + 1) c7)) (fun q hq hm => by
        simp only [List.mem_singleton] at hm
        subst hm
        exact own_ne OWN7.out _ _ _ KL7.out (by decide) hq.symm)
      have KO := OT7.out.trans (KeepsOthers.setCell w7 ⟨lb, 0, none⟩ (.slice (some ⟨b7, 0, none⟩) (X.length + pre.length + 1) c7))
      gi_wp2
      refine ⟨KO, fun _ => KT7.out.far (p := ⟨lb, 0, none⟩) (by simpa using hlt') _, ⟨⟨_, ?_, KL7.out.set_ 0 _⟩, KPc7.out.far (p := ⟨lb, 0, none⟩) (by simpa using hlp) _, KT7.out.far (p := ⟨lb, 0, none⟩) (by simpa using hlt') _⟩, fun D hD => KO.same D _ (HDS.out D hD) rfl, KK7.out.setCell (p := ⟨lb, 0, none⟩) (.inl (by simp)) _⟩
      have eL : ((X ++ (pre ++ [(⟨k, hk⟩ : Fin (rwCnt d))]).map fun (x : Fin (rwCnt d)) => imgLine z f d x.val).map Value.string) = ((X ++ pre.map fun (x : Fin (rwCnt d)) => imgLine z f d x.val).map Value.string) ++ [.string LN] := by simp [HLN.out]
      rw [List.length_append, List.length_singleton, ← Nat.add_assoc, eL]
      exact OWN8
    case done =>
      rintro D xs W1 hD rfl ⟨⟨⟨v, own, kl⟩, kp, kt⟩, hds, hkk⟩ hK
      have HF := Lib.hid (And.intro own (And.intro kl (And.intro hds (And.intro hkk (And.intro hK hD)))))
      clear own kl kp kt hds hkk hK hD
      gi_wp2
      have hx : X ++ (rwL d).map (fun (x : Fin (rwCnt d)) => imgLine z f d x.val) = imgLs z (L.take (i + 1)) := by rw [HTK.out]; rfl
      have own := HF.out.1
      rw [hx, show X.length + (rwL d).length = (imgLs z (L.take (i + 1))).length by rw [← hx, List.length_append, List.length_map]] at own
      refine ⟨⟨i + 1, by omega, HF.out.2.2.2.1, ⟨_, own, HF.out.2.1⟩, D :: ds, List.nodup_cons.2 ⟨fun hm => ?_, HDW.out.1⟩, fun E hE => ?_, _, _, _, _, _, _, _, _, _, _, _, _, _, _, _, _, _, _, _, _, _, _, _, _, _, _, _, rfl⟩, ?_⟩
      · have h1 := HN.out.2.2.2 D hm
        have h2 := HF.out.2.2.2.2.2
        have h3 := HN.out.2.2.1
        omega
      · rcases List.mem_cons.1 hE with rfl | hE
        · exact ⟨by have h2 := HF.out.2.2.2.2.2; have h3 := HN.out.2.2.1; have h4 := HN.out.1; omega, HF.out.2.2.2.2.1⟩
        · exact ⟨(HDW.out.2 E hE).1, HF.out.2.2.1 E hE⟩
      · simp [intOf]; omega
    case stop =>
      rintro D c pre W1 hD hpre hx
      exact hx.elim
  · obtain rfl : i = cnt := by omega
    have hT : L.take i = L := List.take_of_length_le (by rw [HCN.out]; exact Nat.le_refl _)
    have own := HW.out.2.1
    rw [hT, ← HIL.out] at own
    have c0 : W.cell? ⟨lb, 0, none⟩ = some v := HW.out.2.2.1.cell 0
    have own2 := Lib.hid (rown_mono own (show w.heap.size ≤ w2.heap.size by have := HLT.out; have := HLB.out; omega))
    have hBe : Hid (Below w.heap.size w W) := Lib.hid (Kp.onto (by have hb := HW2.out.1; rw [← HLB.out] at hb; exact hb) HW.out.1 (by have := HLT.out; have := HLB.out; omega) (fun x hx => by simp only [List.mem_singleton] at hx; subst hx; exact Nat.le_of_eq HLB.out))
    clear own
    gi_wp2
    refine leaves_coll (fun W' => W'.ownsRow w.heap.size 9 1 v (imgL z n).length ((imgL z n).map Value.string) ∧ Below w.heap.size w W') w2.heap.size (fun W' D o h hB ho hc => ⟨own_from h.1 (grownBy_putObj' W' D _) (fun r e => ⟨o, by cases e; exact ho, hc⟩), h.2.grown (grownBy_putObj' W' D _) h.2.size (fun j e => by cases e; have := HW2.out.1.size; omega)⟩) (fun W' h => ?_) ds HW.out.2.2.2.1 W ⟨own2.out, hBe.out⟩ (fun D hD => HW.out.2.2.2.2 D hD)
    refine ⟨_, results_tmp rfl _ _ _, ?_⟩
    exact ⟨_, rfl, h.1, h.2⟩
end Go.Proofs.YtnhnphifhkkboaaDoor
