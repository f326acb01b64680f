/-
  Texts of these proofs, one behind the other: Scr20, Scr21, Scr22, Scr17.
-/
import Derived.Test.YtnhnphifhkkboaaDoorKSW33
import Derived.Test.YtnhnphifhkkboaaDoorKSW34
namespace Go.Proofs.YtnhnphifhkkboaaDoor
open Go.RowKit Go.Shelf
set_option linter.unusedVariables false
set_option linter.unusedSimpArgs false
set_option maxRecDepth 100000
/-- The document's number is the program's. -/
theorem rnumP_no (s : ByteArray) (k : Nat) (hk : k < s.size) (h18 : s.size ≤ 18) (h : digB s[k] = false) : numP s = (0, 3) := numP_no s k hk h18 h
set_option maxHeartbeats 4000000 in
theorem rnumber_any (s : ByteArray) (w : World) (hm : s.size ≤ maxLen) : Calls Tryd.prog 23 #[.string s] w fun e w' => e = .returned (.tuple #[.int .i64 (numP s).1, .int .i64 (numP s).2]) ∧ w' = w := by
  unfold maxLen at hm
  by_cases h0 : s.size = 0
  · have h1 : (s.toList == ([] : List UInt8)) = true := by
      rw [ByteArray.toList_eq]
      have : s.data.toList.length = 0 := h0 ▸ Array.length_toList
      rw [List.length_eq_zero_iff.1 this]; rfl
    have h2 : s.toList.isEmpty = true := by rw [toList_empty, h0]; rfl
    have HR : Hid (numP s = (0, 4)) := Lib.hid (by unfold numP; rw [if_pos h0])
    go_enter Tryd.func23, Tryd.ntmps23
    go_wp2_with fail
    all_goals (go_ret2; exact ⟨by rw [HR.out]; rfl, rfl⟩)
  · have h2 : s.toList.isEmpty = false := by rw [toList_empty]; exact decide_eq_false h0
    by_cases h18 : 18 < s.size
    · have HR : Hid (numP s = (0, 2)) := Lib.hid (by unfold numP; rw [if_neg h0, if_pos h18])
      have i1 : (18 : Int) < s.size := by omega
      go_enter Tryd.func23, Tryd.ntmps23
      go_wp2_with fail
      all_goals (go_ret2; exact ⟨by rw [HR.out]; rfl, rfl⟩)
    · have hz : 0 < s.size := by omega
      have i1 : ¬ (18 : Int) < s.size := by omega
      have HR : Hid (numP s = if 1 < s.size ∧ s.get! 0 = 48 then (0, 3) else if allD s.data.toList then (decL s.data.toList, 0) else (0, 3)) := Lib.hid (by unfold numP; rw [if_neg h0, if_neg h18])
      go_enter Tryd.func23, Tryd.ntmps23
      go_wp2_with fail
      go_loopw [4, 5] (fun n i wr => ∃ k : Nat, k ≤ s.size ∧ i = .int .i64 k ∧ n = .int .i64 (decL (s.data.toList.take k)) ∧ allD (s.data.toList.take k) = true ∧ wr = w) (fun _ i _ => s.size - (intOf i).toNat)
      case atStart => exact ⟨0, by omega, rfl, rfl, rfl, rfl⟩
      case round =>
        obtain ⟨k, hk, rfl, rfl, ha, rfl⟩ := hrel
        by_cases hlt : k < s.size
        · have hnb := decL_le17 (s.data.toList.take k) ha (by have := List.length_take_le k s.data.toList; omega)
          by_cases hv : digB s[k] = true
          · have H1 : Hid (decL (s.data.toList.take (k + 1)) = 10 * decL (s.data.toList.take k) + ((s[k].toNat : Int) - 48)) := by
              show _ = _; rw [take_snoc s k hlt, decL_snoc]
            have H2 : Hid (allD (s.data.toList.take (k + 1)) = true) := by show _ = _; rw [take_snoc s k hlt, allD_snoc, ha, hv]; rfl
            unfold digB at hv
            simp only [decide_eq_true_eq] at hv
            have d1 : (48 : Int) ≤ s[k].toNat := by omega
            have d2 : (s[k].toNat : Int) ≤ 57 := by omega
            clear ha hv
            go_wp2_with fail
            go_roundw
            case rel => exact ⟨k + 1, by omega, by go_num, by rw [H1.out], H2.out, by first | trivial | rfl⟩
            case measure => simp [intOf]; omega
          · have hv : digB s[k] = false := by simpa using hv
            have H1 := Lib.hid (numP_no s k hlt (by omega) hv)
            unfold digB at hv
            simp only [decide_eq_false_iff_not] at hv
            clear ha
            by_cases hlo : s[k].toNat < 48
            · have d1 : (s[k].toNat : Int) < 48 := by omega
              clear hv
              go_wp2_with fail
              go_ret2
              exact ⟨by rw [H1.out]; rfl, rfl⟩
            · have d1 : ¬ (s[k].toNat : Int) < 48 := by omega
              have d2 : (57 : Int) < s[k].toNat := by omega
              clear hv
              go_wp2_with fail
              go_ret2
              exact ⟨by rw [H1.out]; rfl, rfl⟩
        · obtain rfl : k = s.size := by omega
          have e : s.data.toList.take s.size = s.data.toList := List.take_of_length_le (by simp)
          by_cases hf : 1 < s.size ∧ s.get! 0 = 48
          · have H1 : Hid (numP s = (0, 3)) := Lib.hid (by rw [HR.out, if_pos hf])
            have e0 : ((s[0].toNat : Int) == 48) = true := by
              have := hf.2; rw [getB s 0 hz] at this; rw [this]; rfl
            have i2 : (1 : Int) < s.size := by omega
            clear hf e ha
            go_wp2_with fail
            all_goals (go_ret2; exact ⟨by rw [H1.out]; rfl, rfl⟩)
          · have H1 : Hid (numP s = (decL (s.data.toList.take s.size), 0)) := by show _ = _; rw [HR.out, if_neg hf]; rw [e] at ha ⊢; rw [if_pos ha]
            have hl : (1 < s.size ∧ ((s[0].toNat : Int) == 48) = false) ∨ s.size = 1 := by
              by_cases hl1 : 1 < s.size
              · refine Or.inl ⟨hl1, ?_⟩
                have : ¬ s[0] = 48 := fun e => hf ⟨hl1, by rw [getB s 0 hz]; exact e⟩
                rw [beq_eq_false_iff_ne]; intro e; exact this (UInt8.toNat_inj.1 (by simpa using (by exact_mod_cast e : s[0].toNat = 48)))
              · exact Or.inr (by omega)
            clear e ha hf
            rcases hl with ⟨hl1, e0⟩ | hl1
            all_goals (
              first | (have i2 : (1 : Int) < s.size := by omega) | (have i2 : ¬ (1 : Int) < s.size := by omega)
              try clear hl1
              go_wp2_with fail
              all_goals (go_ret2; exact ⟨by rw [H1.out]; rfl, rfl⟩))
/-- What the document's bytes of words are. -/
def RBytesR (ws : List ByteArray) (w : World) (e : Ending) (w' : World) : Prop :=
  Below w.heap.size w w' ∧ (((bytesA ws = none ∨ ws = []) ∧ e = .returned (.tuple #[.slice none 0 0, .bool false])) ∨
    ∃ ys g c, ws ≠ [] ∧ bytesA ws = some ys ∧ e = .returned (.tuple #[.slice (some ⟨g, 0, none⟩) ys.length c, .bool true]) ∧ w'.ownsRow w.heap.size 5 1 (.slice (some ⟨g, 0, none⟩) ys.length c) ys.length (bV ys))
set_option maxHeartbeats 8000000 in
theorem rbytes_any {w : World} (ws : List ByteArray) (A : Option Addr) (c : Nat) (hc : ws.length ≤ c) (HS : SRow w A ws) (hsz : ∀ x ∈ ws, x.size ≤ 1000000) (hlen : ws.length ≤ 1000000) :
    Calls Tryd.prog 126 #[.slice A ws.length c] w fun e w' => RBytesR ws w e w' := by
  obtain ⟨n, hn⟩ : ∃ n, ws.length = n := ⟨_, rfl⟩
  rw [hn] at hc ⊢
  go_enter Tryd.func126, Tryd.ntmps126
  go_wp2_with fail
  go_loopw [4, 5] (fun v i wr => ∃ (k : Nat) (ys : List Int), k ≤ n ∧ i = .int .i64 (k : Int) ∧ bytesA (ws.take k) = some ys ∧ (k = 0 → v = .slice none 0 0) ∧ wr.ownsRow w.heap.size 5 1 v ys.length (bV ys) ∧ Below w.heap.size w wr) (fun _ i _ => n - (intOf i).toNat)
  case atStart => exact ⟨0, [], by omega, rfl, rfl, fun _ => rfl, World.ownsRow_nil _ _ _ _, Below.refl _ _⟩
  case round =>
    obtain ⟨k, ys, hk, rfl, hys, hv0, own1, hB⟩ := hrel
    by_cases hlt : k < n
    · have hkl : k < ws.length := by omega
      obtain ⟨x, hx⟩ : ∃ x, ws[k] = x := ⟨_, rfl⟩
      have hxk : ws[k]? = some x := by rw [← hx]; exact List.getElem?_eq_getElem hkl
      have hxs : x.size ≤ 1000000 := hsz x (List.mem_of_getElem? hxk)
      obtain ⟨ad, rfl, _, hcx⟩ := (HS.keep hB) k x hxk
      have hF := fun W => rfromhex_any x W (by unfold maxLen; omega)
      have hylen : ys.length = k := by
        have := bytesA_len _ _ hys; rw [List.length_take] at this; omega
      have htk : ws.take (k + 1) = ws.take k ++ [x] := by rw [lst_at ws k hkl, hx]
      have hxsz : (x.size : Int) ≤ 1000000 := by omega
      cases hb2 : hxB 2 x with
      | false =>
        have hno := Lib.hid (bytesA_none ws k x hxk hb2)
        have hor : (fhA x).2 ≠ 0 ∨ ((fhA x).2 = 0 ∧ x.size ≠ 2) := by
          unfold hxB at hb2; simp only [decide_eq_false_iff_not] at hb2; omega
        obtain ⟨a, ha⟩ : ∃ a, fhA x = a := ⟨_, rfl⟩
        obtain ⟨a1, a2⟩ := a
        rw [ha] at hF hor
        dsimp only at hF hor
        have HB := Lib.hid hB
        clear hys hv0 own1 hB HS hxk hx hylen htk ha hb2
        rcases hor with he | ⟨he, h2⟩
        · have e1 : (a2 != 0) = true := by rw [bne_iff_ne]; exact he
          clear he
          go_wp2_with fail
          refine (hF _).mono ?_
          rintro e w1 ⟨rfl, b1⟩
          have HB1 := Lib.hid (HB.out.trans (b1.mono HB.out.size))
          clear b1 hF
          go_wp2_with fail
          all_goals (go_ret2; exact ⟨HB1.out, Or.inl ⟨Or.inl hno.out, rfl⟩⟩)
        · subst he
          have e2 : ((x.size : Int) != 2) = true := by rw [bne_iff_ne]; omega
          clear h2
          go_wp2_with fail
          refine (hF _).mono ?_
          rintro e w1 ⟨rfl, b1⟩
          have HB1 := Lib.hid (HB.out.trans (b1.mono HB.out.size))
          have hcx1 : w1.cell? (ad.add k) = some (.string x) := (b1.cell (cell_lt hcx)).trans hcx
          clear b1 hF
          go_wp2_with fail
          all_goals (go_ret2; exact ⟨HB1.out, Or.inl ⟨Or.inl hno.out, rfl⟩⟩)
      | true =>
        have hyes := Lib.hid (bytesA_snoc _ _ x hys hb2)
        rw [← htk] at hyes
        have hbd := hx2_bd hb2
        have hsx : x.size = 2 ∧ (fhA x).2 = 0 := by unfold hxB at hb2; simp only [decide_eq_true_eq] at hb2; exact ⟨hb2.2, hb2.1⟩
        have e8 : IntKind.u8.wrap (fhA x).1 = (fhA x).1 := IntWalk.u8_in _ (by omega)
        obtain ⟨a, ha⟩ : ∃ a, fhA x = a := ⟨_, rfl⟩
        obtain ⟨a1, a2⟩ := a
        rw [ha] at hF hyes hbd hsx e8
        dsimp only at hF hyes hbd hsx e8
        obtain ⟨hs2, rfl⟩ := hsx
        have e2 : ((x.size : Int) != 2) = false := by rw [hs2]; rfl
        have HB := Lib.hid hB
        have HO := Lib.hid own1
        clear hys hv0 own1 hB HS hxk hx hxs htk ha hb2
        go_wp2_with fail
        refine (hF _).mono ?_
        rintro e w1 ⟨rfl, b1⟩
        have hB1 := HB.out.trans (b1.mono HB.out.size)
        have hcx1 : w1.cell? (ad.add k) = some (.string x) := (b1.cell (cell_lt hcx)).trans hcx
        have own2 := own_kp HO.out (Kp.of_below (L := []) b1) (by simp)
        obtain ⟨v2, w2, hrun, own3, gb, _⟩ := scbyte_more own2 (by omega) hB1.size a1
        have HB2 := Lib.hid ((hB1.alloc hB1.size (.cells #[.int .u8 a1] 5)).grown gb (by simp; have := hB1.size; omega) (fun i h => (own2.lt i h).1))
        have OW : Hid (w2.ownsRow w.heap.size 5 1 v2 (ys ++ [a1]).length (bV (ys ++ [a1]))) := Lib.hid (by
          rw [List.length_append, List.length_singleton]
          have : bV (ys ++ [a1]) = bV ys ++ [.int .u8 a1] := by unfold bV; rw [List.map_append]; rfl
          rw [this]; exact own3)
        clear own2 own3 gb hB1 b1 hF hcx hs2
        go_wp2_with (at_builtin; refine wpList_append_run rfl (.tmp 32) (.tmp 35) 22 rfl rfl rfl hrun ?_)
        all_goals (
          go_roundw
          case rel => exact ⟨k + 1, ys ++ [a1], by omega, by go_num, hyes.out, fun h => absurd h (by omega), OW.out, HB2.out⟩
          case measure => simp [intOf]; omega)
    · obtain rfl : k = n := by omega
      rw [List.take_of_length_le (by omega)] at hys
      have hyl := bytesA_len _ _ hys
      by_cases h0 : ws = []
      · subst h0
        have : ys = [] := by injection hys with h; exact h.symm
        subst this
        have hk0 : k = 0 := by rw [← hn]; rfl
        have hv := hv0 hk0
        subst hv hk0
        have HB := Lib.hid hB
        clear hv0 own1 hB HS hys hyl hlt
        go_wp2_with fail
        all_goals (go_ret2; exact ⟨HB.out, Or.inl ⟨Or.inr rfl, rfl⟩⟩)
      · have hpos : 0 < ys.length := by
          have : ws.length ≠ 0 := fun e => h0 (List.length_eq_zero_iff.1 e)
          omega
        rcases own1.2 with ⟨_, e0⟩ | ⟨g, cap, cur, hv, _, _, _, _, _⟩
        · omega
        · subst hv
          have i0 : (0 : Int) < ys.length := by omega
          have H := Lib.hid (show RBytesR ws w (.returned (.tuple #[.slice (some ⟨g, 0, none⟩) ys.length cap, .bool true])) wr from ⟨hB, Or.inr ⟨ys, g, cap, h0, hys, rfl, own1⟩⟩)
          obtain ⟨m, hm⟩ : ∃ m, ys.length = m := ⟨_, rfl⟩
          rw [hm] at i0 H ⊢
          clear hv0 own1 hB HS hys hyl hlt h0 hpos hm
          go_wp2_with fail
          all_goals (
            go_ret2
            show RBytesR ws w (.returned (.tuple #[.slice (some ⟨g, 0, none⟩) m cap, .bool (decide (0 < m))])) wr
            rw [decide_eq_true (show 0 < m by omega)]; exact H.out)
end Go.Proofs.YtnhnphifhkkboaaDoor
namespace Go.Proofs.YtnhnphifhkkboaaDoor
open Go.RowKit Go.Shelf
set_option linter.unusedVariables false
set_option linter.unusedSimpArgs false
set_option maxRecDepth 100000
theorem numT_len (p : Bool) (rest : List ByteArray) (td : Td) (h : rest.length ≠ 1) : numT p rest td = (3, td) := by
  match rest, h with
  | [], _ => rfl
  | [x], h => exact absurd rfl h
  | x :: y :: r, _ => rfl
theorem numT_one (p : Bool) (x : ByteArray) (td : Td) : numT p [x] td = if (numP x).2 ≠ 0 then ((3 : Int), td) else if p = true ∧ ((numP x).1 < 1 ∨ 128 < (numP x).1) then ((6 : Int), td)
      else if (if p then td.pg else td.bg).isSome then ((11 : Int), td) else ((0 : Int), if p then { td with pg := some (numP x).1 } else { td with bg := some (numP x).1 }) := rfl
set_option maxHeartbeats 8000000 in
theorem rnumber1_any {B g : Nat} {td : Td} {vP vV vC vR vE : Value} {w : World} (h : RTdH B g td vP vV vC vR vE w) (hW : TdW td) (p : Bool) (rest : List ByteArray) (A : Option Addr) (c : Nat) (hc : rest.length + 1 ≤ c) (HS : SRow w A ((if p then pgK else bgK) :: rest)) (hsz : ∀ x ∈ rest, x.size ≤ 1000000) :
    Calls Tryd.prog 99 #[.pointer (some ⟨g, 0, none⟩), .slice A (rest.length + 1) c] w fun e w' => RTakeR B g (rtdL g vP vV vC vR vE) (numT p rest td) w e w' := by
  have HBAD : Hid (∀ (n : Int), n ≠ 0 → RTakeR B g (rtdL g vP vV vC vR vE) (n, td) w (.returned (.int .i64 n)) w) := Lib.hid fun n hn => ⟨rfl, Kp.refl _ _, fun e => absurd e hn⟩
  by_cases h1 : rest.length = 1
  · obtain ⟨x, rfl⟩ := List.length_eq_one_iff.1 h1
    obtain ⟨ad, rfl, hc0, hc1'⟩ := srow_two HS
    have hc1 : w.cell? ⟨ad.block, ad.off + 1, none⟩ = some (.string x) := hc1'
    have hxs := hsz x (by simp)
    have hN := fun W => rnumber_any x W (by unfold maxLen; omega)
    have hT := numT_one p x td
    obtain ⟨RR, hRR⟩ : ∃ R, numT p [x] td = R := ⟨_, rfl⟩
    rw [hRR] at hT ⊢
    have hnb := numP_bd x
    obtain ⟨N, hNN⟩ : ∃ N, numP x = N := ⟨_, rfl⟩
    rw [hNN] at hN hT hnb
    obtain ⟨n, e⟩ := N
    dsimp only at hN hT hnb
    have hl2 : [x].length + 1 = 2 := rfl
    rw [hl2] at hc ⊢
    have d0 : w.cell? ⟨g, 0, none⟩ = some (.int .i64 (td.pg.getD (-1))) := h.blk.cell 0
    have d1 : w.cell? ⟨g, 1, none⟩ = some (.int .i64 (td.bg.getD (-1))) := h.blk.cell 1
    have y0 : w.frozen? ⟨g, 0, none⟩ = false := h.blk.frozen 0
    have y1 : w.frozen? ⟨g, 1, none⟩ = false := h.blk.frozen 1
    clear hNN hRR hsz HS h1 hl2 hxs hc1'
    by_cases he : e = 0
    · subst he
      have hnb := hnb rfl
      rw [if_neg (by simp)] at hT
      cases p with
      | false =>
        unfold bgK at hc0
        simp only [Bool.false_eq_true, if_false, false_and] at hc0 hT
        cases hbg : td.bg with
        | some m =>
          have hm := hW.bg m hbg
          rw [hbg] at hT d1
          simp only [Option.isSome_some, if_true, Option.getD_some] at hT d1
          subst hT
          have H11 := Lib.hid (HBAD.out 11 (by decide))
          have m0 : (0 : Int) ≤ m := hm.1
          clear HBAD h hW hbg hm hnb d0
          go_enter Tryd.func99, Tryd.ntmps99
          go_wp2_with (go_at_call 23; refine (hN _).mono ?_; rintro e w' ⟨rfl, rfl⟩)
          all_goals (go_ret; exact H11.out)
        | none =>
          rw [hbg] at hT d1
          simp only [Option.isSome_none, Bool.false_eq_true, if_false, Option.getD_none] at hT d1
          have hw := h.setN 1 (.int .i64 n) td.pg (some n) (by rw [hbg]; rfl)
          have HW : Hid (RTakeR B g (rtdL g vP vV vC vR vE) RR w (.returned (.int .i64 0)) (w.setCell ⟨g, 1, none⟩ (.int .i64 n))) := Lib.hid (by
            rw [hT]
            exact ⟨rfl, (Kp.refl _ w).setCell (p := ⟨g, 1, none⟩) (.inl (mem_rtdL.2 (.inl rfl))) _, fun _ => ⟨_, _, _, _, _, hw, fun x hx => Or.inl hx⟩⟩)
          clear HBAD h hW hbg hnb d0 hw hT
          go_enter Tryd.func99, Tryd.ntmps99
          go_wp2_with (go_at_call 23; refine (hN _).mono ?_; rintro e w' ⟨rfl, rfl⟩)
          all_goals (go_ret; exact HW.out)
      | true =>
        unfold pgK at hc0
        simp only [if_true, true_and] at hc0 hT
        by_cases hbad : n < 1 ∨ 128 < n
        · rw [if_pos hbad] at hT
          subst hT
          have H6 := Lib.hid (HBAD.out 6 (by decide))
          clear HBAD h hW hnb d0 d1
          rcases hbad with hb | hb
          all_goals (
            have hb2 : n < 1 ∨ 128 < n := by omega
            go_enter Tryd.func99, Tryd.ntmps99
            go_wp2_with (go_at_call 23; refine (hN _).mono ?_; rintro e w' ⟨rfl, rfl⟩)
            all_goals (go_ret; exact H6.out))
        · rw [if_neg hbad] at hT
          have n1 : ¬ n < 1 := fun hh => hbad (Or.inl hh)
          have n2 : ¬ 128 < n := fun hh => hbad (Or.inr hh)
          cases hpg : td.pg with
          | some m =>
            have hm := hW.pg m hpg
            rw [hpg] at hT d0
            simp only [Option.isSome_some, if_true, Option.getD_some] at hT d0
            subst hT
            have H11 := Lib.hid (HBAD.out 11 (by decide))
            have m0 : (0 : Int) ≤ m := by omega
            clear HBAD h hW hpg hm hnb d1 hbad
            go_enter Tryd.func99, Tryd.ntmps99
            go_wp2_with (go_at_call 23; refine (hN _).mono ?_; rintro e w' ⟨rfl, rfl⟩)
            all_goals (go_ret; exact H11.out)
          | none =>
            rw [hpg] at hT d0
            simp only [Option.isSome_none, Bool.false_eq_true, if_false, Option.getD_none] at hT d0
            have hw := h.setN 0 (.int .i64 n) (some n) td.bg (by rw [hpg]; rfl)
            have HW : Hid (RTakeR B g (rtdL g vP vV vC vR vE) RR w (.returned (.int .i64 0)) (w.setCell ⟨g, 0, none⟩ (.int .i64 n))) := Lib.hid (by
              rw [hT]
              exact ⟨rfl, (Kp.refl _ w).setCell (p := ⟨g, 0, none⟩) (.inl (mem_rtdL.2 (.inl rfl))) _, fun _ => ⟨_, _, _, _, _, hw, fun x hx => Or.inl hx⟩⟩)
            clear HBAD h hW hpg hnb d1 hw hT hbad
            go_enter Tryd.func99, Tryd.ntmps99
            go_wp2_with (go_at_call 23; refine (hN _).mono ?_; rintro e w' ⟨rfl, rfl⟩)
            all_goals (go_ret; exact HW.out)
    · rw [if_pos he] at hT
      subst hT
      have e1 : (e != 0) = true := by rw [bne_iff_ne]; exact he
      have H3 := Lib.hid (HBAD.out 3 (by decide))
      clear HBAD h hW he hnb d0 d1
      go_enter Tryd.func99, Tryd.ntmps99
      go_wp2_with (go_at_call 23; refine (hN _).mono ?_; rintro e w' ⟨rfl, rfl⟩)
      all_goals (go_ret; exact H3.out)
  · rw [numT_len p rest td h1]
    have H3 := Lib.hid (HBAD.out 3 (by decide))
    obtain ⟨n, hnn⟩ : ∃ n, rest.length + 1 = n := ⟨_, rfl⟩
    have e1 : ((n : Int) != 2) = true := by rw [bne_iff_ne]; omega
    rw [hnn] at hc ⊢
    clear h1 hnn HS hsz HBAD h hW
    go_enter Tryd.func99, Tryd.ntmps99
    go_wp2_with fail
    all_goals (go_ret; exact H3.out)
end Go.Proofs.YtnhnphifhkkboaaDoor
namespace Go.Proofs.YtnhnphifhkkboaaDoor
open Go.RowKit Go.Shelf
set_option linter.unusedVariables false
set_option linter.unusedSimpArgs false
set_option maxRecDepth 100000
theorem own_base {w : World} {B B' e s n : Nat} {v : Value} {xs : List Value} (h : w.ownsRow B e s v n xs) (hb : B' ≤ B) : w.ownsRow B' e s v n xs := by
  refine ⟨h.1, ?_⟩
  rcases h.2 with h0 | ⟨g, cap, cur, h1, h2, h3⟩
  · exact Or.inl h0
  · exact Or.inr ⟨g, cap, cur, h1, Nat.le_trans hb h2, h3⟩
theorem slice_tail2 (A : Option Addr) (n c : Nat) (hn : 2 ≤ n) (hc : n ≤ c) (W : World) : (Instr.slice 45 (.slice A n c) (some (.int .i64 2)) none none).run Tryd.prog W = .ok (.slice (if c = 2 then A else A.map (·.add 2)) (n - 2) (c - 2)) W := by
  have hs : (sizeOf 9).run Tryd.prog W = .ok 1 W := by kernel_rfl
  have he' : Tryd.prog.elem 45 = 9 := by kernel_rfl
  have h := run_slice_l (P := Tryd.prog) W 45 A n c (by rw [he']; exact Tryd.underlying45) .i64 2 (by omega) (by omega)
  rw [he', hs] at h
  rw [h]
  simp [Result.andThen, sliced]
theorem SRow.tail2 {w : World} {A : Option Addr} {x y : ByteArray} {xs : List ByteArray} {c : Nat} (h : SRow w A (x :: y :: xs)) (hc : xs.length + 2 ≤ c) : SRow w (if c = 2 then A else A.map (·.add 2)) xs := fun i z hz => by
  obtain ⟨ad, e, hl, hx⟩ := h (i + 2) z (by simpa using hz)
  subst e
  have : 0 < xs.length := by
    have := (List.getElem?_eq_some_iff.1 hz).1; omega
  rw [if_neg (by omega)]
  refine ⟨ad.add 2, rfl, by rw [block_of_add]; exact hl, ?_⟩
  rw [add_of_add, show 2 + i = i + 2 by omega]
  exact hx
set_option maxHeartbeats 16000000 in
theorem rrom_any {B g : Nat} {td : Td} {vP vV vC vR vE : Value} {w : World} (h : RTdH B g td vP vV vC vR vE w) (hB : B ≤ w.heap.size) (hn : td.rom.length ≤ 100000000000) (f : ByteArray) (hf : eqB f [114, 111, 109] = true) (rest : List ByteArray) (A : Option Addr) (c : Nat) (hc : rest.length + 1 ≤ c) (HS : SRow w A (f :: rest)) (hsz : ∀ x ∈ rest, x.size ≤ 1000000) (hlen : rest.length ≤ 1000000) :
    Calls Tryd.prog 100 #[.pointer (some ⟨g, 0, none⟩), .slice A (rest.length + 1) c] w fun e w' => RTakeR B g (rtdL g vP vV vC vR vE) (pieceT rest td) w e w' := by
  have HBAD : Hid (∀ (n : Int) (w' : World), n ≠ 0 → Below w.heap.size w w' → RTakeR B g (rtdL g vP vV vC vR vE) (n, td) w (.returned (.int .i64 n)) w') := Lib.hid fun n w' hn hb => ⟨rfl, Kp.of_below hb, fun e => absurd e hn⟩
  obtain ⟨ad, rfl, hcf⟩ := srow_one HS
  have y_rom : (f.toList == [114, 111, 109]) = true := hf
  by_cases h2 : rest.length < 2
  · have hR : pieceT rest td = (3, td) := by
      match rest, h2 with
      | [], _ => rfl
      | [x], _ => cases hx : hxB 6 x <;> simp [pieceT, hx]
      | x :: y :: r, h => simp at h; omega
    rw [hR]
    obtain ⟨n, hnn⟩ : ∃ n, rest.length + 1 = n := ⟨_, rfl⟩
    have i1 : (n : Int) < 3 := by omega
    have i2 : 0 < n := by omega
    rw [hnn] at hc ⊢
    clear h2 hR HS hsz hlen hnn h hf
    go_enter Tryd.func100, Tryd.ntmps100
    go_wp2_with fail
    all_goals (go_ret; exact HBAD.out 3 _ (by decide) (Below.refl _ _))
  · obtain ⟨x, y, r, rfl⟩ : ∃ x y r, rest = x :: y :: r := by
      match rest, h2 with
      | [], h => simp at h
      | [x], h => simp at h
      | x :: y :: r, _ => exact ⟨x, y, r, rfl⟩
    obtain ⟨ad', e', hc0', hc1'⟩ := srow_two HS
    injection e' with e'; subst e'
    have hcx : w.cell? ⟨ad.block, ad.off + 1, none⟩ = some (.string x) := hc1'
    have hxs := hsz x (by simp)
    have hF := fun W => rfromhex_any x W (by unfold maxLen; omega)
    have hxsz : (x.size : Int) ≤ 1000000 := by omega
    obtain ⟨n, hnn⟩ : ∃ n, (x :: y :: r).length + 1 = n := ⟨_, rfl⟩
    have hn2 : n - 2 = (y :: r).length := by rw [← hnn]; simp
    have i1 : ¬ (n : Int) < 3 := by rw [← hnn]; simp; omega
    have i2 : 2 ≤ n := by rw [← hnn]; simp
    rw [hnn] at hc ⊢
    by_cases h6 : x.size = 6
    · have e6 : ((x.size : Int) != 6) = false := by rw [h6]; rfl
      have hsl := slice_tail2 (some ad) n c i2 hc
      obtain ⟨A1, hA1⟩ : ∃ A1, (if c = 2 then some ad else (some ad).map (·.add 2)) = A1 := ⟨_, rfl⟩
      have HSR := hA1 ▸ HS.tail2 (c := c) (by simp at hnn ⊢; omega)
      rw [hA1, hn2] at hsl
      have hBy := fun (W : World) (hb : Below w.heap.size w W) => rbytes_any (y :: r) A1 (c - 2) (by omega) (HSR.keep hb) (fun z hz => hsz z (List.mem_cons_of_mem _ hz)) (by simp at hlen ⊢; omega)
      obtain ⟨rn, hrn⟩ : ∃ rn, (y :: r).length = rn := ⟨_, rfl⟩
      obtain ⟨c1, hc1e⟩ : ∃ c1, c - 2 = c1 := ⟨_, rfl⟩
      rw [hrn, hc1e] at hsl hBy
      have hbd := fhA_bd' x
      rw [h6] at hbd
      have h166 : (16 : Int) ^ 6 = 16777216 := by decide
      have hxb : hxB 6 x = decide ((fhA x).2 = 0) := by unfold hxB; simp [h6]
      have hP0 := Lib.hid (fun hh => pieceT_no x (y :: r) td hh)
      have hP1 := Lib.hid (pieceT_bad x (y :: r) td)
      have hP2 := Lib.hid (fun ys => pieceT_ok x (y :: r) td ys)
      obtain ⟨RR, hRR⟩ : ∃ RR, pieceT (x :: y :: r) td = RR := ⟨_, rfl⟩
      rw [hRR] at hP0 hP1 hP2 ⊢
      obtain ⟨a, ha⟩ : ∃ a, fhA x = a := ⟨_, rfl⟩
      rw [ha] at hF hbd hxb hP2
      obtain ⟨a1, a2⟩ := a
      dsimp only at hF hbd hxb hP2
      have e64 : IntKind.i64.wrap a1 = a1 := IntWalk.i64_in _ (by omega)
      have HH := Lib.hid h
      have HXB := Lib.hid hxb
      have HBY := Lib.hid hBy
      have HBD := Lib.hid (And.intro hbd.1 (show a1 ≤ 16777215 by omega))
      have HNE : Hid (y :: r ≠ []) := Lib.hid (by simp)
      clear h HS HSR hsz hlen hnn hn2 hA1 hrn hc1e hRR ha h2 hBy hxb hc0' hc1' h6 hbd
      go_enter Tryd.func100, Tryd.ntmps100
      go_upto_region 5 with (go_at_call 77; refine (hF _).mono ?_; rintro e w1 ⟨rfl, hb1⟩)
      have HB1 := Lib.hid hb1
      clear hb1 hF
      go_wp2_with fail
      refine (HBY.out _ HB1.out).mono ?_
      rintro e w2 ⟨b2, ⟨hbad, rfl⟩ | ⟨ys, q, cq, hne, hys, rfl, own⟩⟩
      · have H3 : Hid (RTakeR B g (rtdL g vP vV vC vR vE) RR w (.returned (.int .i64 3)) w2) := Lib.hid (by
          have hb := HB1.out.trans (b2.mono HB1.out.size)
          cases hx : hxB 6 x with
          | false => rw [hP0.out hx]; exact HBAD.out 3 _ (by decide) hb
          | true => rw [hP1.out hx (hbad.elim Or.inr (fun e => absurd e HNE.out))]; exact HBAD.out 3 _ (by decide) hb)
        clear b2 hbad
        cases he : (a2 != 0) with
        | true => go_wp2_with fail; all_goals (go_ret; exact H3.out)
        | false => go_wp2_with fail; all_goals (go_ret; exact H3.out)
      · have hb := HB1.out.trans (b2.mono HB1.out.size)
        by_cases he : a2 = 0
        · subst he
          have hx : hxB 6 x = true := by rw [HXB.out]; rfl
          have hRok := hP2.out ys hx hne hys
          have h2 := HH.out.below hb
          have B2 : B ≤ w2.heap.size := Nat.le_trans hB hb.size
          have du : ∀ q', (Value.slice (some ⟨q, 0, none⟩) ys.length cq).ownBlock = some q' → vV.ownBlock ≠ some q' ∧ vC.ownBlock ≠ some q' ∧ vR.ownBlock ≠ some q' := fun q' hq => by
            have h1 : w.heap.size ≤ q' := by have := (own_has own hq).1; have := HB1.out.size; omega
            exact ⟨fun e => by have := own_lt HH.out.rv e; omega, fun e => by have := own_lt HH.out.rc e; omega, fun e => by have := own_lt HH.out.rr e; omega⟩
          obtain ⟨b, c5, w5, hrun, c10, z10, gb, far, h6, k6, l6⟩ := h2.addP (at_ := a1) (own_base own (Nat.le_trans hB HB1.out.size)) du B2 hn
          have c2 : w2.cell? ⟨g, 2, none⟩ = some vP := h2.blk.cell 2
          have HW : Hid (RTakeR B g (rtdL g vP vV vC vR vE) RR w (.returned (.int .i64 0)) (w5.setCell ⟨g, 2, none⟩ (.slice (some ⟨b, 0, none⟩) (td.rom.length + 1) c5))) := Lib.hid (by
            rw [hRok]
            exact ⟨rfl, (Kp.of_below hb).trans k6 (fun x hx => Or.inl hx), fun _ => ⟨_, _, _, _, _, h6, fun x hx => (l6 x hx).imp id (fun hh => Nat.le_trans hb.size hh)⟩⟩)
          have hrun2 : (Builtin.append_ #[82, 82] 82 #[vP, .slice (some ⟨w2.heap.size, 0, none⟩) 1 1]).run Tryd.prog (w2.alloc (.cells #[.int .i64 a1, .slice (some ⟨q, 0, none⟩) ys.length cq] 108)) = .ok (.slice (some ⟨b, 0, none⟩) (td.rom.length + 1) c5) w5 := hrun
          obtain ⟨tn, htn⟩ : ∃ m, td.rom.length + 1 = m := ⟨_, rfl⟩
          rw [htn] at hrun2 HW
          obtain ⟨yn, hyn⟩ : ∃ m, ys.length = m := ⟨_, rfl⟩
          rw [hyn] at hrun2 ⊢
          clear hx hRok h2 du hrun gb far h6 k6 l6 own b2 hb hne hys htn hyn hn
          go_wp2_with (at_builtin; refine wpList_append_run rfl (.tmp 48) (.tmp 53) 82 rfl rfl rfl hrun2 ?_)
          all_goals (go_ret; exact HW.out)
        · have hx : hxB 6 x = false := by rw [HXB.out]; simp [he]
          have H3 : Hid (RTakeR B g (rtdL g vP vV vC vR vE) RR w (.returned (.int .i64 3)) w2) := Lib.hid (by rw [hP0.out hx]; exact HBAD.out 3 _ (by decide) hb)
          have e1 : (a2 != 0) = true := by rw [bne_iff_ne]; exact he
          obtain ⟨yn, hyn⟩ : ∃ m, ys.length = m := ⟨_, rfl⟩
          rw [hyn]
          clear b2 own hb hne hys hx he hyn
          go_wp2_with fail
          all_goals (go_ret; exact H3.out)
    · have e6 : ((x.size : Int) != 6) = true := by rw [bne_iff_ne]; omega
      have hx : hxB 6 x = false := by unfold hxB; simp [h6]
      rw [pieceT_no x (y :: r) td hx]
      clear h HS hsz hlen hnn hn2 h2 h6 hx hc0' hc1' hF
      go_enter Tryd.func100, Tryd.ntmps100
      go_wp2_with fail
      all_goals (go_ret; exact HBAD.out 3 _ (by decide) (Below.refl _ _))
end Go.Proofs.YtnhnphifhkkboaaDoor
namespace Go.Proofs.YtnhnphifhkkboaaDoor
open Go.RowKit Go.Shelf
set_option linter.unusedVariables false
set_option linter.unusedSimpArgs false
set_option maxRecDepth 100000
def stepR (t : ByteArray) (x : Rw) (td : Td) : Int × Td := if x.b < t.size then take1 (lineW (t.extract x.a x.b)) td else (3, td)
/-- Lines, one behind the other; the first one that is wrong. -/
def foldL (t : ByteArray) : List Rw → Td → (Int × Int) × Td
  | [], td => ((0, 0), td)
  | x :: r, td => if (stepR t x td).1 = 0 then foldL t r (stepR t x td).2 else (((stepR t x td).1, (x.k : Int)), td)
theorem foldL_cons (t : ByteArray) (x : Rw) (r : List Rw) (td : Td) : foldL t (x :: r) td = if (stepR t x td).1 = 0 then foldL t r (stepR t x td).2 else (((stepR t x td).1, (x.k : Int)), td) := rfl
theorem foldL_app (t : ByteArray) : ∀ (p r : List Rw) (td td' : Td), foldL t p td = ((0, 0), td') → foldL t (p ++ r) td = foldL t r td'
  | [], r, td, td', h => by injection h with _ h; subst h; rfl
  | x :: p, r, td, td', h => by
    rw [List.cons_append, foldL_cons]
    rw [foldL_cons] at h
    split at h
    · rename_i hz; rw [if_pos hz]; exact foldL_app t p r _ _ h
    · rename_i hz
      injection h with h _
      injection h with h _
      exact absurd h hz
theorem foldL_one (t : ByteArray) (p : List Rw) (x : Rw) (td td' : Td) (h : foldL t p td = ((0, 0), td')) : foldL t (p ++ [x]) td = if (stepR t x td').1 = 0 then ((0, 0), (stepR t x td').2) else (((stepR t x td').1, (x.k : Int)), td') := by
  rw [foldL_app t p [x] td td' h]; rfl
theorem foldL_err (t : ByteArray) : ∀ (p r : List Rw) (td : Td), (foldL t p td).1.1 ≠ 0 → foldL t (p ++ r) td = foldL t p td
  | [], r, td, h => absurd rfl h
  | x :: p, r, td, h => by
    rw [List.cons_append, foldL_cons, foldL_cons]
    rw [foldL_cons] at h
    split at h
    · rename_i hz; rw [if_pos hz, if_pos hz]; exact foldL_err t p r _ h
    · rename_i hz; rw [if_neg hz, if_neg hz]
/-- What is wrong with a text, and where; or nothing. -/
def parseE (t : ByteArray) : Int × Int :=
  if 200000 < t.size then (2, 0) else if (foldL t (rowsT t) td0).1.1 ≠ 0 then (foldL t (rowsT t) td0).1 else (scrE (foldL t (rowsT t) td0).2, 0)
def parseS (t : ByteArray) : Ps := psT (foldL t (rowsT t) td0).2
/-- What reading a text gives. -/
def ParseR (E : Int × Int) (P : Ps) (w : World) (e : Ending) (w' : World) : Prop :=
  Below w.heap.size w w' ∧ ((E.1 ≠ 0 ∧ e = .returned (.tuple #[.agg sv0.cs, fltV E])) ∨ (E.1 = 0 ∧ ∃ s, e = .returned (.tuple #[.agg s.cs, fltV E]) ∧ ScrV w' s P ∧ SvOk s))
theorem results_cell2 {P : Program} {fn : Func} {s u : Tmp} {t t2 : TypeId} {v v2 : Value} {tmps : Array Value} {a b : Addr} {w : World} (h : fn.results = #[.cell s t, .cell u t2]) (ha : tmps[s]?.getD undef = .pointer (some a)) (hl : (loadVar t a).run P w = .ok v w)
    (hb : tmps[u]?.getD undef = .pointer (some b)) (hm : (loadVar t2 b).run P w = .ok v2 w) : (results fn tmps).run P w = .ok (.tuple #[v, v2]) w := by
  simp [results, h, ha, asAddr, hl, hb, hm]
theorem scblk_own {W W' : World} {g : Nat} {t : TypeId} {cs : Array Value} {row : Option Nat} (h : Blk W g t cs) (hg : W.grownBy W' row) (hr : ∀ r, row = some r → ∃ o : Obj, W.heap[r]? = some o ∧ o.isCells = false) : Blk W' g t cs :=
  h.grown hg fun e => by
    obtain ⟨o, ho, hc⟩ := hr g e.symm
    have h' : W.heap[g]? = some (Obj.cells cs t (0, 0)) := h
    rw [h'] at ho
    cases ho
    exact absurd hc (by simp [Obj.isCells])
/-- Kept where what was changed are no cells. -/
theorem TdH.kp2 {B g mb : Nat} {td : Td} {vP vV vC vR vE : Value} {w w' : World} {L : List Nat} (h : TdH B g mb td vP vV vC vR vE w) (k : Kp L w w') (hmb : mb ∉ L) (hL : ∀ x ∈ L, ∀ T cs, ¬ Blk w x T cs) : TdH B g mb td vP vV vC vR vE w' := by
  obtain ⟨D, hD, hM⟩ := h.map
  obtain ⟨ps, e1, e2, e3, e4⟩ := h.rom
  have no : ∀ {B' e s n : Nat} {u : Value} {xs : List Value}, w.ownsRow B' e s u n xs → ∀ q, u.ownBlock = some q → q ∉ L := fun o q hq hx => by
    obtain ⟨_, c, hc⟩ := own_has o hq
    exact hL q hx _ _ hc
  exact {
    blk := h.blk.kp k (fun hx => hL _ hx _ _ h.blk)
    gB := h.gB
    mB := h.mB
    map := ⟨D, smap_kp hD k hmb, hM⟩
    rom := ⟨ps, e1, own_kp e2 k (no e2), fun p hp => own_kp (e3 p hp) k (no (e3 p hp)), e4⟩
    rv := own_kp h.rv k (no h.rv)
    rc := own_kp h.rc k (no h.rc)
    rr := own_kp h.rr k (no h.rr)
    re := own_kp h.re k (no h.re)
    d1 := h.d1
    d2 := h.d2 }
theorem td0_new {w : World} {B g mb : Nat} (hb : Blk w g 84 #[.map (some mb), .slice none 0 0, .slice none 0 0, .slice none 0 0, .slice none 0 0, .slice none 0 0]) (hg : B ≤ g) (hm : B ≤ mb) (ho : w.ownsMap Tryd.prog 9 SH mb 2 (.map [])) :
    TdH B g mb td0 (.slice none 0 0) (.slice none 0 0) (.slice none 0 0) (.slice none 0 0) (.slice none 0 0) w := {
  blk := hb
  gB := hg
  mB := hm
  map := ⟨_, ho, MPd.zero⟩
  rom := ⟨[], rfl, World.ownsRow_nil _ _ _ _, fun p hp => by simp at hp, fun p hp => by simp at hp⟩
  rv := World.ownsRow_nil _ _ _ _
  rc := World.ownsRow_nil _ _ _ _
  rr := World.ownsRow_nil _ _ _ _
  re := World.ownsRow_nil _ _ _ _
  d1 := fun q hq => by cases hq
  d2 := fun q hq => by cases hq }
theorem rowsK_len (t : ByteArray) : ∀ (f p k : Nat), (rowsK t f p k).length ≤ f
  | 0, p, k => Nat.le_refl _
  | f + 1, p, k => by
    unfold rowsK
    split
    · have := rowsK_len t f (nxP t p) (k + 1); simp; omega
    · simp
theorem stepR_ok {p : Nat} {td : Td} {t : ByteArray} {x : Rw} (h : TdW td) (hp : TdOk p td) (hp1 : p ≤ 100000000000) (ht : t.size ≤ 200000) (hz : (stepR t x td).1 = 0) : TdW (stepR t x td).2 ∧ TdOk (p + 200000) (stepR t x td).2 := by
  unfold stepR at hz ⊢
  split at hz
  · rename_i hx
    rw [if_pos hx]
    have hl := (lineW_len (t.extract x.a x.b)).1
    have hs : (t.extract x.a x.b).size ≤ 200000 := by rw [ByteArray.size_extract]; omega
    obtain ⟨h1, h2⟩ := take1_ok h hp hp1 (lineW (t.extract x.a x.b)) (by omega) hz
    exact ⟨h1, h2.more (by omega)⟩
  · simp at hz
end Go.Proofs.YtnhnphifhkkboaaDoor
