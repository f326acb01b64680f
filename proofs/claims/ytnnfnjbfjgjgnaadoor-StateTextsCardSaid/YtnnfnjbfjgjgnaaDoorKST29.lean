/-
  Texts of these proofs, one behind the other: St4.
-/
import Derived.Test.YtnnfnjbfjgjgnaaDoorKST15
import Derived.Test.YtnnfnjbfjgjgnaaDoorKST28
namespace Go.Proofs.YtnnfnjbfjgjgnaaDoor
open Go.RowKit
set_option linter.unusedVariables false
set_option linter.unusedSimpArgs false
set_option maxRecDepth 100000
/-- A table of so many texts. -/
def StrTab (w : World) (g n : Nat) (f : Nat → ByteArray) : Prop := g < w.heap.size ∧ ∀ k, k < n → w.cell? ⟨g, k, none⟩ = some (.string (f k))
theorem StrTab.below {w w' : World} {g n : Nat} {f : Nat → ByteArray} (h : StrTab w g n f) (hb : Below w.heap.size w w') : StrTab w' g n f := ⟨Nat.lt_of_lt_of_le h.1 hb.size, fun k hk => (World.cell?_of_block (hb.block _ h.1)).trans (h.2 k hk)⟩
def nmS : Nat → ByteArray | 0 => ⟨#[65]⟩ | 1 => ⟨#[88]⟩ | 2 => ⟨#[89]⟩ | 3 => ⟨#[83]⟩ | 4 => ⟨#[80]⟩ | 5 => ⟨#[80, 67]⟩ | 6 => ⟨#[77, 48]⟩ | 7 => ⟨#[77, 49]⟩ | 8 => ⟨#[77, 50]⟩ | 9 => ⟨#[77, 51]⟩ | 10 => ⟨#[77, 52]⟩ | 11 => ⟨#[77, 53]⟩ | 12 => ⟨#[77, 54]⟩ | 13 => ⟨#[77, 55]⟩ | 14 => ⟨#[76]⟩ | _ => ⟨#[70]⟩
theorem nmS_inj_fin : ∀ i j : Fin 16, (nmS i.val).data = (nmS j.val).data → i = j := by decide +kernel
theorem nmS_inj {i j : Nat} (hi : i < 16) (hj : j < 16) (h : nmS i = nmS j) : i = j := by
  have := nmS_inj_fin ⟨i, hi⟩ ⟨j, hj⟩ (by rw [h])
  exact congrArg Fin.val this
def nmA : Array Value := #[.string ⟨#[65]⟩, .string ⟨#[88]⟩, .string ⟨#[89]⟩, .string ⟨#[83]⟩, .string ⟨#[80]⟩, .string ⟨#[80, 67]⟩, .string ⟨#[77, 48]⟩, .string ⟨#[77, 49]⟩, .string ⟨#[77, 50]⟩, .string ⟨#[77, 51]⟩, .string ⟨#[77, 52]⟩, .string ⟨#[77, 53]⟩, .string ⟨#[77, 54]⟩, .string ⟨#[77, 55]⟩, .string ⟨#[76]⟩, .string ⟨#[70]⟩]
theorem nmA_at (k : Nat) (h : k < 16) : nmA[k]? = some (.string (nmS k)) := by
  match k, h with
  | 0, _ | 1, _ | 2, _ | 3, _ | 4, _ | 5, _ | 6, _ | 7, _ | 8, _ | 9, _ | 10, _ | 11, _ | 12, _ | 13, _ | 14, _ | 15, _ => rfl
  | k + 16, h => exact absurd h (by omega)
theorem nmS_cases (s : ByteArray) : (∃ k, k < 16 ∧ s = nmS k) ∨ ∀ j, j < 16 → nmS j ≠ s := by
  by_cases h : ∃ k, k < 16 ∧ s = nmS k
  · exact .inl h
  · exact .inr fun j hj e => h ⟨j, hj, e.symm⟩
theorem ba_ne2 {t s : ByteArray} (h : t ≠ s) : (t.toList == s.toList) = false := ba_ne h
abbrev NT (w : World) : Prop := StrTab w 1 16 nmS
set_option maxHeartbeats 8000000 in
theorem splace_any {w : World} (h : NT w) (s : ByteArray) : Calls Tryd.prog 39 #[.string s] w fun e w' => ((∃ k, k < 16 ∧ s = nmS k ∧ e = .returned (.tuple #[.int .i64 (k : Int), .bool true])) ∨ ((∀ j, j < 16 → nmS j ≠ s) ∧ e = .returned (.tuple #[.int .i64 0, .bool false]))) ∧ w = w' := by
  have c0 : w.cell? ⟨1, 0, none⟩ = some (.string ⟨#[65]⟩) := h.2 0 (by decide)
  have c1 : w.cell? ⟨1, 1, none⟩ = some (.string ⟨#[88]⟩) := h.2 1 (by decide)
  have c2 : w.cell? ⟨1, 2, none⟩ = some (.string ⟨#[89]⟩) := h.2 2 (by decide)
  have c3 : w.cell? ⟨1, 3, none⟩ = some (.string ⟨#[83]⟩) := h.2 3 (by decide)
  have c4 : w.cell? ⟨1, 4, none⟩ = some (.string ⟨#[80]⟩) := h.2 4 (by decide)
  have c5 : w.cell? ⟨1, 5, none⟩ = some (.string ⟨#[80, 67]⟩) := h.2 5 (by decide)
  have c6 : w.cell? ⟨1, 6, none⟩ = some (.string ⟨#[77, 48]⟩) := h.2 6 (by decide)
  have c7 : w.cell? ⟨1, 7, none⟩ = some (.string ⟨#[77, 49]⟩) := h.2 7 (by decide)
  have c8 : w.cell? ⟨1, 8, none⟩ = some (.string ⟨#[77, 50]⟩) := h.2 8 (by decide)
  have c9 : w.cell? ⟨1, 9, none⟩ = some (.string ⟨#[77, 51]⟩) := h.2 9 (by decide)
  have c10 : w.cell? ⟨1, 10, none⟩ = some (.string ⟨#[77, 52]⟩) := h.2 10 (by decide)
  have c11 : w.cell? ⟨1, 11, none⟩ = some (.string ⟨#[77, 53]⟩) := h.2 11 (by decide)
  have c12 : w.cell? ⟨1, 12, none⟩ = some (.string ⟨#[77, 54]⟩) := h.2 12 (by decide)
  have c13 : w.cell? ⟨1, 13, none⟩ = some (.string ⟨#[77, 55]⟩) := h.2 13 (by decide)
  have c14 : w.cell? ⟨1, 14, none⟩ = some (.string ⟨#[76]⟩) := h.2 14 (by decide)
  have c15 : w.cell? ⟨1, 15, none⟩ = some (.string ⟨#[70]⟩) := h.2 15 (by decide)
  have hix : ∀ q : Nat, q < 16 → ∀ W : World, (Instr.index 61 (.agg #[.string ⟨#[65]⟩, .string ⟨#[88]⟩, .string ⟨#[89]⟩, .string ⟨#[83]⟩, .string ⟨#[80]⟩, .string ⟨#[80, 67]⟩, .string ⟨#[77, 48]⟩, .string ⟨#[77, 49]⟩, .string ⟨#[77, 50]⟩, .string ⟨#[77, 51]⟩, .string ⟨#[77, 52]⟩, .string ⟨#[77, 53]⟩, .string ⟨#[77, 54]⟩, .string ⟨#[77, 55]⟩, .string ⟨#[76]⟩, .string ⟨#[70]⟩]) (.int .i64 (q : Int))).run Tryd.prog W = .ok (.string (nmS q)) W := fun q hq W => run_index_agg Tryd.underlying61 (by kernel_rfl) (by omega) (by omega) (nmA_at q hq) W
  have HIX := Lib.hid hix
  clear hix h
  go_enter Tryd.func39, Tryd.ntmps39
  go_wp2_with fail
  clear c0 c1 c2 c3 c4 c5 c6 c7 c8 c9 c10 c11 c12 c13 c14 c15
  obtain ⟨AV, hAV⟩ : ∃ v, (Value.agg #[.string ⟨#[65]⟩, .string ⟨#[88]⟩, .string ⟨#[89]⟩, .string ⟨#[83]⟩, .string ⟨#[80]⟩, .string ⟨#[80, 67]⟩, .string ⟨#[77, 48]⟩, .string ⟨#[77, 49]⟩, .string ⟨#[77, 50]⟩, .string ⟨#[77, 51]⟩, .string ⟨#[77, 52]⟩, .string ⟨#[77, 53]⟩, .string ⟨#[77, 54]⟩, .string ⟨#[77, 55]⟩, .string ⟨#[76]⟩, .string ⟨#[70]⟩]) = v := ⟨_, rfl⟩
  rw [hAV] at HIX
  simp only [hAV]
  clear hAV
  go_loopw [7] (fun i wr => ∃ q : Nat, q ≤ 16 ∧ i = .int .i64 q ∧ (∀ j, j < q → nmS j ≠ s) ∧ wr = w) (fun i _ => 16 - (intOf i).toNat)
  case atStart => exact ⟨0, by omega, rfl, fun j hj => absurd hj (by omega), rfl⟩
  case round =>
    obtain ⟨q, hq, rfl, hn, rfl⟩ := hrel
    have HN := Lib.hid hn
    clear hn
    by_cases hlt : q < 16
    · have q0 : (q : Int) < 16 := by omega
      have q1 : (0 : Int) ≤ q := by omega
      have hx := HIX.out q hlt
      by_cases he : nmS q = s
      · rw [he] at hx
        have hb : (s.toList == s.toList) = true := ba_eq s
        have HE := Lib.hid he
        clear he
        go_wp2_with fail
        go_ret2
        exact ⟨.inl ⟨q, hlt, HE.out.symm, rfl⟩, rfl⟩
      · have hb : ((nmS q).toList == s.toList) = false := ba_ne he
        obtain ⟨t, ht⟩ : ∃ t, nmS q = t := ⟨_, rfl⟩
        have HE := Lib.hid he
        rw [ht] at hx hb
        clear he ht
        go_wp2_with fail
        go_roundw
        case rel => exact ⟨q + 1, by omega, by go_num, fun j hj => by
          by_cases e : j = q
          · subst e; exact HE.out
          · exact HN.out j (by omega), by first | rfl | trivial⟩
        case measure => simp [intOf]; omega
    · obtain rfl : q = 16 := by omega
      go_wp2_with fail
      go_ret2
      exact ⟨.inr ⟨HN.out, rfl⟩, rfl⟩
theorem row_new (r : Nat → Int) (W : World) : (storeCells ⟨W.heap.size, 0, none⟩ (rwA r).toList).run Tryd.prog (W.alloc (.cells #[.int .u16 0, .int .u16 0, .int .u16 0, .int .u16 0, .int .u16 0, .int .u16 0, .int .u16 0, .int .u16 0, .int .u16 0, .int .u16 0, .int .u16 0, .int .u16 0, .int .u16 0, .int .u16 0, .int .u16 0, .int .u16 0] 48)) = .ok () (W.alloc (.cells (rwA r) 48)) := run_storeCells_new (P := Tryd.prog) W 48 #[.int .u16 0, .int .u16 0, .int .u16 0, .int .u16 0, .int .u16 0, .int .u16 0, .int .u16 0, .int .u16 0, .int .u16 0, .int .u16 0, .int .u16 0, .int .u16 0, .int .u16 0, .int .u16 0, .int .u16 0, .int .u16 0] (rwA r) (by rw [rwA_size]; exact size_row) (by rw [rwA_size]; rfl) (by rw [Array.all_eq_true]; intro i hi; exact rwA_one r _ (by simp))
theorem rw_ix (r : Nat → Int) (k : Nat) (hk : k < 16) (W : World) : (Instr.index 48 (.agg (rwA r)) (.int .i64 (k : Int))).run Tryd.prog W = .ok (.int .u16 (r k)) W := run_index_agg Tryd.underlying48 (by kernel_rfl) (by omega) (by omega) (rwA_at r k hk) W
/-- What Get answers. -/
def GetP (r : Nat → Int) (s : ByteArray) (v : Int) (b : Bool) : Prop := (∃ k, k < 16 ∧ s = nmS k ∧ v = r k ∧ b = true) ∨ ((∀ j, j < 16 → nmS j ≠ s) ∧ v = 0 ∧ b = false)
set_option maxHeartbeats 8000000 in
theorem sget_any (r : Nat → Int) (hr : StOk r) {w : World} (h : NT w) (s : ByteArray) : Calls Tryd.prog 21 #[.agg (stA r), .string s] w fun e w' => (∃ v b, e = .returned (.tuple #[.int .u16 v, .bool b]) ∧ GetP r s v b) ∧ Below w.heap.size w w' := by
  have HR := Lib.hid hr
  have HT := Lib.hid h
  have h8 : (Tryd.prog.info? 25).map (·.size) = some (stA r).size := by rw [stA_size]; exact size_state
  have H8 := Lib.hid h8
  obtain ⟨SA, hSA⟩ : ∃ x, stA r = x := ⟨_, rfl⟩
  have HSA := Lib.hid hSA
  rw [hSA] at H8 ⊢
  clear hr h h8 hSA
  go_enter Tryd.func21, Tryd.ntmps21
  go_wp2_with fail
  refine (splace_any (HT.out.below ((Below.refl _ w).alloc (Nat.le_refl _) _)) s).mono ?_
  rintro e w' ⟨⟨k, hk, hs, rfl⟩ | ⟨hn, rfl⟩, rfl⟩
  · have HK := Lib.hid (And.intro hk hs)
    have k0 : Blk (w.alloc (.cells SA 25)) w.heap.size 25 SA := Blk.new w _ _
    have hx := rw_ix r k hk
    clear hk hs
    go_wp2_with (refine wpList_load_row rfl 25 (.tmp 2) rfl w.heap.size (by rfl) 25 SA (0, 0) _ k0 Tryd.underlying25 rfl H8.out ?_)
    have hA := sall_any r HR.out (w.alloc (.cells SA 25))
    rw [HSA.out] at hA
    refine hA.mono ?_
    rintro e w' ⟨rfl, hb⟩
    have HB := Lib.hid hb
    clear hb k0 hA
    go_wp2_with fail
    go_ret2
    exact ⟨⟨_, _, rfl, .inl ⟨k, HK.out.1, HK.out.2, rfl, rfl⟩⟩, ((Below.refl _ w).alloc (Nat.le_refl _) _).trans (HB.out.mono (by simp))⟩
  · have HN := Lib.hid hn
    clear hn
    go_wp2_with fail
    go_ret2
    exact ⟨⟨_, _, rfl, .inr ⟨HN.out, rfl, rfl⟩⟩, (Below.refl _ w).alloc (Nat.le_refl _) _⟩
/-- All registers of a block made 0, cell by cell. -/
def zw (w : World) (g : Nat) : World := ((((((((((((((((w).setCell ⟨g, 0, none⟩ (.int .u8 0)).setCell ⟨g, 1, none⟩ (.int .u8 0)).setCell ⟨g, 2, none⟩ (.int .u8 0)).setCell ⟨g, 3, none⟩ (.int .u8 0)).setCell ⟨g, 4, none⟩ (.int .u8 0)).setCell ⟨g, 5, none⟩ (.int .u16 0)).setCell ⟨g, 6, none⟩ (.int .u8 0)).setCell ⟨g, 7, none⟩ (.int .u8 0)).setCell ⟨g, 8, none⟩ (.int .u8 0)).setCell ⟨g, 9, none⟩ (.int .u8 0)).setCell ⟨g, 10, none⟩ (.int .u8 0)).setCell ⟨g, 11, none⟩ (.int .u8 0)).setCell ⟨g, 12, none⟩ (.int .u8 0)).setCell ⟨g, 13, none⟩ (.int .u8 0)).setCell ⟨g, 14, none⟩ (.int .u8 0)).setCell ⟨g, 15, none⟩ (.bool false)
theorem Blk.zw {w : World} {g : Nat} (h : Blk w g 25 #[.int .u8 0, .int .u8 0, .int .u8 0, .int .u8 0, .int .u8 0, .int .u16 0, .int .u8 0, .int .u8 0, .int .u8 0, .int .u8 0, .int .u8 0, .int .u8 0, .int .u8 0, .int .u8 0, .int .u8 0, .bool false]) : Blk (zw w g) g 25 #[.int .u8 0, .int .u8 0, .int .u8 0, .int .u8 0, .int .u8 0, .int .u16 0, .int .u8 0, .int .u8 0, .int .u8 0, .int .u8 0, .int .u8 0, .int .u8 0, .int .u8 0, .int .u8 0, .int .u8 0, .bool false] :=
  (((((((((((((((h.set_ 0 (.int .u8 0)).set_ 1 (.int .u8 0)).set_ 2 (.int .u8 0)).set_ 3 (.int .u8 0)).set_ 4 (.int .u8 0)).set_ 5 (.int .u16 0)).set_ 6 (.int .u8 0)).set_ 7 (.int .u8 0)).set_ 8 (.int .u8 0)).set_ 9 (.int .u8 0)).set_ 10 (.int .u8 0)).set_ 11 (.int .u8 0)).set_ 12 (.int .u8 0)).set_ 13 (.int .u8 0)).set_ 14 (.int .u8 0)).set_ 15 (.bool false)
theorem below_zw {a w : World} {B g : Nat} (h : Below B a w) (hg : B ≤ g) : Below B a (zw w g) :=
  (((((((((((((((h.setCell (p := ⟨g, 0, none⟩) hg (.int .u8 0)).setCell (p := ⟨g, 1, none⟩) hg (.int .u8 0)).setCell (p := ⟨g, 2, none⟩) hg (.int .u8 0)).setCell (p := ⟨g, 3, none⟩) hg (.int .u8 0)).setCell (p := ⟨g, 4, none⟩) hg (.int .u8 0)).setCell (p := ⟨g, 5, none⟩) hg (.int .u16 0)).setCell (p := ⟨g, 6, none⟩) hg (.int .u8 0)).setCell (p := ⟨g, 7, none⟩) hg (.int .u8 0)).setCell (p := ⟨g, 8, none⟩) hg (.int .u8 0)).setCell (p := ⟨g, 9, none⟩) hg (.int .u8 0)).setCell (p := ⟨g, 10, none⟩) hg (.int .u8 0)).setCell (p := ⟨g, 11, none⟩) hg (.int .u8 0)).setCell (p := ⟨g, 12, none⟩) hg (.int .u8 0)).setCell (p := ⟨g, 13, none⟩) hg (.int .u8 0)).setCell (p := ⟨g, 14, none⟩) hg (.int .u8 0)).setCell (p := ⟨g, 15, none⟩) hg (.bool false)
/-- What Set answers. -/
def SetP (r : Nat → Int) (s : ByteArray) (v : Int) (x : Nat → Int) (e : Int) : Prop :=
  (∃ k, k < 16 ∧ s = nmS k ∧ ((v ≤ mostP k ∧ e = 0 ∧ x = fun j => if j = k then v else r j) ∨ (mostP k < v ∧ e = 1 ∧ x = fun _ => 0))) ∨ ((∀ j, j < 16 → nmS j ≠ s) ∧ e = 10 ∧ x = fun _ => 0)
theorem mostP_bd (k : Nat) : 0 ≤ mostP k ∧ mostP k ≤ 65535 := by unfold mostP; split; omega; split <;> omega
theorem stOk_zero : StOk fun _ => 0 := fun i _ => ⟨Int.le_refl _, (mostP_bd i).1⟩
theorem stOk_set {r : Nat → Int} (hr : StOk r) {k : Nat} {v : Int} (v0 : 0 ≤ v) (hv : v ≤ mostP k) : StOk fun j => if j = k then v else r j := fun j hj => by
  by_cases e : j = k
  · subst e; simp only [if_true]; exact ⟨v0, hv⟩
  · simp only [if_neg e]; exact hr j hj
set_option maxHeartbeats 16000000 in
theorem sset_any (r : Nat → Int) (hr : StOk r) {w : World} (h : NT w) (s : ByteArray) (v : Int) (v0 : 0 ≤ v) (v1 : v ≤ 65535) : Calls Tryd.prog 22 #[.agg (stA r), .string s, .int .u16 v] w fun e w' => (∃ x c, e = .returned (.tuple #[.agg (stA x), .int .i64 c]) ∧ SetP r s v x c) ∧ Below w.heap.size w w' := by
  have HR := Lib.hid hr
  have HT := Lib.hid h
  have h8 : (Tryd.prog.info? 25).map (·.size) = some (stA r).size := by rw [stA_size]; exact size_state
  have H8 := Lib.hid h8
  have hB0 : Below w.heap.size w ((w.alloc (.cells (stA r) 25)).alloc (.cells #[.int .u8 0, .int .u8 0, .int .u8 0, .int .u8 0, .int .u8 0, .int .u16 0, .int .u8 0, .int .u8 0, .int .u8 0, .int .u8 0, .int .u8 0, .int .u8 0, .int .u8 0, .int .u8 0, .int .u8 0, .bool false] 25)) := ((Below.refl _ w).alloc (Nat.le_refl _) _).alloc (by simp) _
  have k0 : Blk ((w.alloc (.cells (stA r) 25)).alloc (.cells #[.int .u8 0, .int .u8 0, .int .u8 0, .int .u8 0, .int .u8 0, .int .u16 0, .int .u8 0, .int .u8 0, .int .u8 0, .int .u8 0, .int .u8 0, .int .u8 0, .int .u8 0, .int .u8 0, .int .u8 0, .bool false] 25)) w.heap.size 25 (stA r) := (Blk.new w _ _).alloc _
  have k1 : Blk ((w.alloc (.cells (stA r) 25)).alloc (.cells #[.int .u8 0, .int .u8 0, .int .u8 0, .int .u8 0, .int .u8 0, .int .u16 0, .int .u8 0, .int .u8 0, .int .u8 0, .int .u8 0, .int .u8 0, .int .u8 0, .int .u8 0, .int .u8 0, .int .u8 0, .bool false] 25)) (w.heap.size + 1) 25 #[.int .u8 0, .int .u8 0, .int .u8 0, .int .u8 0, .int .u8 0, .int .u16 0, .int .u8 0, .int .u8 0, .int .u8 0, .int .u8 0, .int .u8 0, .int .u8 0, .int .u8 0, .int .u8 0, .int .u8 0, .bool false] := Blk.new_ (by simp)
  have hz : ((w.alloc (.cells (stA r) 25)).alloc (.cells #[.int .u8 0, .int .u8 0, .int .u8 0, .int .u8 0, .int .u8 0, .int .u16 0, .int .u8 0, .int .u8 0, .int .u8 0, .int .u8 0, .int .u8 0, .int .u8 0, .int .u8 0, .int .u8 0, .int .u8 0, .bool false] 25)).heap.size = w.heap.size + 1 + 1 := by simp
  have K0 := Lib.hid k0
  have K1 := Lib.hid k1
  have HB0 := Lib.hid hB0
  have HZ := Lib.hid hz
  clear k0 k1 hB0 hz
  obtain ⟨SA, hSA⟩ : ∃ x, stA r = x := ⟨_, rfl⟩
  have HSA := Lib.hid hSA
  rw [hSA] at H8 K0 K1 HB0 HZ ⊢
  clear hr h h8 hSA
  go_enter Tryd.func22, Tryd.ntmps22
  go_wp2_with fail
  refine (splace_any (HT.out.below HB0.out) s).mono ?_
  rintro e w' ⟨hp, rfl⟩
  obtain ⟨w1, hw1⟩ : ∃ w1, (w.alloc (.cells SA 25)).alloc (.cells #[.int .u8 0, .int .u8 0, .int .u8 0, .int .u8 0, .int .u8 0, .int .u16 0, .int .u8 0, .int .u8 0, .int .u8 0, .int .u8 0, .int .u8 0, .int .u8 0, .int .u8 0, .int .u8 0, .int .u8 0, .bool false] 25) = w1 := ⟨_, rfl⟩
  rw [hw1] at K0 K1 HB0 HZ ⊢
  clear hw1
  have hzero : ∀ (E : Int), SetP r s v (fun _ => 0) E → (∃ x c, Ending.returned (.tuple #[.agg (stA fun _ => 0), .int .i64 E]) = Ending.returned (.tuple #[.agg (stA x), .int .i64 c]) ∧ SetP r s v x c) := fun E h => ⟨_, _, rfl, h⟩
  have HZE := Lib.hid hzero
  clear hzero
  rcases hp with ⟨k, hk, hs, rfl⟩ | ⟨hn, rfl⟩
  · have hm := fun W => smost_any k W
    obtain ⟨M, hM⟩ : ∃ M, mostP k = M := ⟨_, rfl⟩
    have hMb := mostP_bd k
    have HK := Lib.hid (And.intro hk hs)
    have HM := Lib.hid hM
    rw [hM] at hm hMb
    have m0 := hMb.1
    have m1 := hMb.2
    have hk0 : (0 : Int) ≤ (k : Int) := by omega
    have hk1 : (k : Int) < 16 := by omega
    clear hk hs hM hMb
    by_cases hv : v ≤ M
    · have hv2 : ¬ M < v := by omega
      have kk0 := K0.out
      go_wp2_with (first | (go_at_call 25; refine (hm _).mono ?_; rintro e w' ⟨rfl, rfl⟩) | (refine wpList_load_row rfl 25 (.tmp 3) rfl w.heap.size (by rfl) 25 SA (0, 0) _ kk0 Tryd.underlying25 rfl H8.out ?_))
      have hA := sall_any r HR.out w1
      rw [HSA.out] at hA
      refine hA.mono ?_
      rintro e w2 ⟨rfl, hb⟩
      have k1 := K1.out.below hb K1.out.lt
      have hB2 := HB0.out.trans (hb.mono HB0.out.size)
      have z2 : w.heap.size + 1 + 1 ≤ w2.heap.size := by rw [← HZ.out]; exact hb.size
      have hrn := row_new r w2
      have hB3 := hB2.alloc hB2.size (.cells (rwA r) 48)
      have kR : Blk (w2.alloc (.cells (rwA r) 48)) w2.heap.size 48 (rwA r) := Blk.new w2 _ _
      have k13 := k1.alloc (.cells (rwA r) 48)
      have H13 := Lib.hid k13
      have HR3 := Lib.hid kR
      have HB3 := Lib.hid hB3
      have HZ2 := Lib.hid z2
      have hlt2 : w.heap.size + 1 ≠ w2.heap.size := by omega
      have HLT := Lib.hid hlt2
      have hszR := rwA_size r
      clear k1 hB2 z2 hB3 kR k13 hb kk0 hA hlt2
      go_upto_region 7 with fail
      clear hrn
      generalize World.alloc w2 _ = w3 at *
      generalize w2.heap.size = h at *
      have cv : w3.cell? ⟨h, k, none⟩ = some (.int .u16 (r k)) := (HR3.out.cell k).trans (rwA_at _ _ HK.out.1)
      have fv : w3.frozen? ⟨h, k, none⟩ = false := HR3.out.frozen k
      have R4 := Lib.hid ((rwA_set r k v) ▸ HR3.out.set_ k (.int .u16 v))
      have K4 := Lib.hid (H13.out.far (p := ⟨h, k, none⟩) HLT.out (.int .u16 v))
      have B4 := Lib.hid (HB3.out.setCell (p := ⟨h, k, none⟩) (by show w.heap.size ≤ h; have := HZ2.out; omega) (.int .u16 v))
      have hok : StOk fun j => if j = k then v else r j := stOk_set HR.out v0 (by rw [HM.out]; exact hv)
      have HOK := Lib.hid hok
      obtain ⟨x, hx⟩ : ∃ x : Nat → Int, (fun j => if j = k then v else r j) = x := ⟨_, rfl⟩
      have HX := Lib.hid hx
      rw [hx] at R4 HOK
      have hR4 := R4.out
      have hsz4 : (Tryd.prog.info? 48).map (·.size) = some (rwA x).size := by rw [rwA_size]; exact size_row
      have HS4 := Lib.hid hsz4
      have hszx := rwA_size x
      clear hx hok hsz4
      go_wp2_with (refine wpList_load_row rfl 48 (.tmp 10) rfl h (by rfl) 48 (rwA x) (0, 0) _ hR4 Tryd.underlying48 rfl HS4.out ?_)
      refine (sst_any x HOK.out _).mono ?_
      rintro e w5 ⟨rfl, hb⟩
      have k5 := K4.out.below hb K4.out.lt
      have hst := k5.run_store (P := Tryd.prog) (stA x) rfl (stA_one _)
      have hld := (k5.row (stA x)).run_load (P := Tryd.prog) Tryd.underlying25 rfl size_state
      have HD := Lib.hid hld
      have B5 := Lib.hid (below_setRow (B4.out.trans (hb.mono B4.out.size)) (show w.heap.size ≤ w.heap.size + 1 by omega) (stA x))
      have HF : Hid (SetP r s v x 0) := Lib.hid (.inl ⟨k, HK.out.1, HK.out.2, .inl ⟨by rw [HM.out]; exact hv, rfl, HX.out.symm⟩⟩)
      have hsR := stA_size x
      clear hld k5 hb hR4
      go_wp2_with fail
      (try simp only [Exit.inBlock, Exit.then])
      refine bodyPost_ret (results_cell_tmp (a := ⟨w.heap.size + 1, 0, none⟩) Tryd.results22 (by rfl) HD.out rfl) rfl ?_
      exact ⟨⟨x, 0, rfl, HF.out⟩, B5.out⟩
    · have hv2 : M < v := by omega
      have HV := Lib.hid hv2
      have c0 : w1.cell? ⟨w.heap.size + 1, 0, none⟩ = some (.int .u8 0) := K1.out.cell 0
      have f0 := K1.out.frozen 0
      have c1 : w1.cell? ⟨w.heap.size + 1, 1, none⟩ = some (.int .u8 0) := K1.out.cell 1
      have f1 := K1.out.frozen 1
      have c2 : w1.cell? ⟨w.heap.size + 1, 2, none⟩ = some (.int .u8 0) := K1.out.cell 2
      have f2 := K1.out.frozen 2
      have c3 : w1.cell? ⟨w.heap.size + 1, 3, none⟩ = some (.int .u8 0) := K1.out.cell 3
      have f3 := K1.out.frozen 3
      have c4 : w1.cell? ⟨w.heap.size + 1, 4, none⟩ = some (.int .u8 0) := K1.out.cell 4
      have f4 := K1.out.frozen 4
      have c5 : w1.cell? ⟨w.heap.size + 1, 5, none⟩ = some (.int .u16 0) := K1.out.cell 5
      have f5 := K1.out.frozen 5
      have c6 : w1.cell? ⟨w.heap.size + 1, 6, none⟩ = some (.int .u8 0) := K1.out.cell 6
      have f6 := K1.out.frozen 6
      have c7 : w1.cell? ⟨w.heap.size + 1, 7, none⟩ = some (.int .u8 0) := K1.out.cell 7
      have f7 := K1.out.frozen 7
      have c8 : w1.cell? ⟨w.heap.size + 1, 8, none⟩ = some (.int .u8 0) := K1.out.cell 8
      have f8 := K1.out.frozen 8
      have c9 : w1.cell? ⟨w.heap.size + 1, 9, none⟩ = some (.int .u8 0) := K1.out.cell 9
      have f9 := K1.out.frozen 9
      have c10 : w1.cell? ⟨w.heap.size + 1, 10, none⟩ = some (.int .u8 0) := K1.out.cell 10
      have f10 := K1.out.frozen 10
      have c11 : w1.cell? ⟨w.heap.size + 1, 11, none⟩ = some (.int .u8 0) := K1.out.cell 11
      have f11 := K1.out.frozen 11
      have c12 : w1.cell? ⟨w.heap.size + 1, 12, none⟩ = some (.int .u8 0) := K1.out.cell 12
      have f12 := K1.out.frozen 12
      have c13 : w1.cell? ⟨w.heap.size + 1, 13, none⟩ = some (.int .u8 0) := K1.out.cell 13
      have f13 := K1.out.frozen 13
      have c14 : w1.cell? ⟨w.heap.size + 1, 14, none⟩ = some (.int .u8 0) := K1.out.cell 14
      have f14 := K1.out.frozen 14
      have c15 : w1.cell? ⟨w.heap.size + 1, 15, none⟩ = some (.bool false) := K1.out.cell 15
      have f15 := K1.out.frozen 15
      have hld := K1.out.zw.run_load (P := Tryd.prog) Tryd.underlying25 rfl size_state
      have HD := Lib.hid hld
      have HB3 := Lib.hid (below_zw HB0.out (show w.heap.size ≤ w.heap.size + 1 by omega))
      clear hld
      skip
      go_wp2_with (go_at_call 25; refine (hm _).mono ?_; rintro e w' ⟨rfl, rfl⟩)
      (try simp only [Exit.inBlock, Exit.then])
      refine bodyPost_ret (results_cell_tmp (a := ⟨w.heap.size + 1, 0, none⟩) Tryd.results22 (by rfl) HD.out rfl) rfl ?_
      exact ⟨HZE.out 1 (.inl ⟨k, HK.out.1, HK.out.2, .inr ⟨by rw [HM.out]; exact HV.out, rfl, rfl⟩⟩), HB3.out⟩
  · have HN := Lib.hid hn
    clear hn
    have c0 : w1.cell? ⟨w.heap.size + 1, 0, none⟩ = some (.int .u8 0) := K1.out.cell 0
    have f0 := K1.out.frozen 0
    have c1 : w1.cell? ⟨w.heap.size + 1, 1, none⟩ = some (.int .u8 0) := K1.out.cell 1
    have f1 := K1.out.frozen 1
    have c2 : w1.cell? ⟨w.heap.size + 1, 2, none⟩ = some (.int .u8 0) := K1.out.cell 2
    have f2 := K1.out.frozen 2
    have c3 : w1.cell? ⟨w.heap.size + 1, 3, none⟩ = some (.int .u8 0) := K1.out.cell 3
    have f3 := K1.out.frozen 3
    have c4 : w1.cell? ⟨w.heap.size + 1, 4, none⟩ = some (.int .u8 0) := K1.out.cell 4
    have f4 := K1.out.frozen 4
    have c5 : w1.cell? ⟨w.heap.size + 1, 5, none⟩ = some (.int .u16 0) := K1.out.cell 5
    have f5 := K1.out.frozen 5
    have c6 : w1.cell? ⟨w.heap.size + 1, 6, none⟩ = some (.int .u8 0) := K1.out.cell 6
    have f6 := K1.out.frozen 6
    have c7 : w1.cell? ⟨w.heap.size + 1, 7, none⟩ = some (.int .u8 0) := K1.out.cell 7
    have f7 := K1.out.frozen 7
    have c8 : w1.cell? ⟨w.heap.size + 1, 8, none⟩ = some (.int .u8 0) := K1.out.cell 8
    have f8 := K1.out.frozen 8
    have c9 : w1.cell? ⟨w.heap.size + 1, 9, none⟩ = some (.int .u8 0) := K1.out.cell 9
    have f9 := K1.out.frozen 9
    have c10 : w1.cell? ⟨w.heap.size + 1, 10, none⟩ = some (.int .u8 0) := K1.out.cell 10
    have f10 := K1.out.frozen 10
    have c11 : w1.cell? ⟨w.heap.size + 1, 11, none⟩ = some (.int .u8 0) := K1.out.cell 11
    have f11 := K1.out.frozen 11
    have c12 : w1.cell? ⟨w.heap.size + 1, 12, none⟩ = some (.int .u8 0) := K1.out.cell 12
    have f12 := K1.out.frozen 12
    have c13 : w1.cell? ⟨w.heap.size + 1, 13, none⟩ = some (.int .u8 0) := K1.out.cell 13
    have f13 := K1.out.frozen 13
    have c14 : w1.cell? ⟨w.heap.size + 1, 14, none⟩ = some (.int .u8 0) := K1.out.cell 14
    have f14 := K1.out.frozen 14
    have c15 : w1.cell? ⟨w.heap.size + 1, 15, none⟩ = some (.bool false) := K1.out.cell 15
    have f15 := K1.out.frozen 15
    have hld := K1.out.zw.run_load (P := Tryd.prog) Tryd.underlying25 rfl size_state
    have HD := Lib.hid hld
    have HB3 := Lib.hid (below_zw HB0.out (show w.heap.size ≤ w.heap.size + 1 by omega))
    clear hld
    go_wp2_with fail
    (try simp only [Exit.inBlock, Exit.then])
    refine bodyPost_ret (results_cell_tmp (a := ⟨w.heap.size + 1, 0, none⟩) Tryd.results22 (by rfl) HD.out rfl) rfl ?_
    exact ⟨HZE.out 10 (.inr ⟨HN.out, rfl, rfl⟩), HB3.out⟩
end Go.Proofs.YtnnfnjbfjgjgnaaDoor
