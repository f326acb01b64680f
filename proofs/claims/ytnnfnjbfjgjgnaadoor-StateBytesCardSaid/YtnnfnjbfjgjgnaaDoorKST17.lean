/-
  Texts of these proofs, one behind the other: St6.
-/
import Derived.Test.YtnnfnjbfjgjgnaaDoorKST15
import Derived.Test.YtnnfnjbfjgjgnaaDoorKST05
import Derived.Test.YtnnfnjbfjgjgnaaDoorKST16
namespace Go.Proofs.YtnnfnjbfjgjgnaaDoor
open Go.RowKit
set_option linter.unusedVariables false
set_option linter.unusedSimpArgs false
set_option maxRecDepth 100000
/-- The bytes of the first k registers. -/
def byL (r : Nat → Int) : Nat → List Value
  | 0 => []
  | k + 1 => if k = 5 then byL r k ++ [.int .u8 (r 5 % 256)] ++ [.int .u8 (r 5 / 256)] else byL r k ++ [.int .u8 (r k)]
theorem byL_len (r : Nat → Int) (k : Nat) : (byL r k).length ≤ k + 1 ∧ (k ≤ 5 → (byL r k).length = k) := by
  induction k with
  | zero => simp [byL]
  | succ k ih =>
    simp only [byL]
    split
    · simp; omega
    · simp; omega
def byZ (r : Nat → Int) (i : Nat) : Int := if i < 5 then r i else if i = 5 then r 5 % 256 else if i = 6 then r 5 / 256 else r (i - 1)
theorem byL_all (r : Nat → Int) : byL r 16 = intsOf .u8 (byZ r) 17 := by kernel_rfl
theorem u8_inf_ : (Tryd.prog.info? 5).map (fun i => (i.zero, i.size, i.bytes)) = some (some (.int .u8 0), 1, 1) := by kernel_rfl
theorem st_le {r : Nat → Int} (hr : StOk r) : ∀ i, i < 16 → i ≠ 5 → 0 ≤ r i ∧ r i ≤ 255 := fun i h h5 => by
  have := hr i h
  unfold mostP at this
  rw [if_neg h5] at this
  split at this <;> omega
theorem st_pc {r : Nat → Int} (hr : StOk r) : 0 ≤ r 5 ∧ r 5 ≤ 65535 := hr 5 (by decide)
theorem own_belowS {W W' : World} {base size n : Nat} {e : TypeId} {v : Value} {xs : List Value} (h : W.ownsRow base e size v n xs) (hb : Below W.heap.size W W') : W'.ownsRow base e size v n xs := by
  refine ⟨h.1, ?_⟩
  rcases h.2 with hn | ⟨g, cap, cur, rfl, hg, hgg, rest⟩
  · exact .inl hn
  · exact .inr ⟨g, cap, cur, rfl, hg, (hb.block g (Array.getElem?_eq_some_iff.1 hgg).1).trans hgg, rest⟩
theorem rw_ix_ (r : Nat → Int) (k : Nat) (hk : k < 16) (W : World) : (Instr.index 48 (.agg (rwA r)) (.int .i64 (k : Int))).run Tryd.prog W = .ok (.int .u16 (r k)) W := run_index_agg Tryd.underlying48 (by kernel_rfl) (by omega) (by omega) (rwA_at r k hk) W
set_option maxHeartbeats 16000000 in
theorem sbytes_any (r : Nat → Int) (hr : StOk r) (w : World) : Calls Tryd.prog 10 #[.agg (stA r)] w fun e w' => (∃ v, e = .returned v ∧ w'.ownsRow w.heap.size 5 1 v 17 (intsOf .u8 (byZ r) 17)) ∧ Below w.heap.size w w' := by
  have HR := Lib.hid hr
  have h8 : (Tryd.prog.info? 25).map (·.size) = some (stA r).size := by rw [stA_size]; exact size_state
  have H8 := Lib.hid h8
  have hmk : ∀ w, (Instr.makeSlice 26 (.int .i64 0) (.int .i64 17)).run Tryd.prog w = .ok (.slice (some ⟨w.heap.size, 0, none⟩) 0 17) (w.alloc (.cells #[.int .u8 0, .int .u8 0, .int .u8 0, .int .u8 0, .int .u8 0, .int .u8 0, .int .u8 0, .int .u8 0, .int .u8 0, .int .u8 0, .int .u8 0, .int .u8 0, .int .u8 0, .int .u8 0, .int .u8 0, .int .u8 0, .int .u8 0] 5)) := fun _ => by kernel_rfl
  clear hr h8
  go_enter Tryd.func10, Tryd.ntmps10
  go_upto_region 2 with fail
  clear hmk
  have k0 : Blk ((w.alloc (.cells (stA r) 25)).alloc (.cells #[.int .u8 0, .int .u8 0, .int .u8 0, .int .u8 0, .int .u8 0, .int .u8 0, .int .u8 0, .int .u8 0, .int .u8 0, .int .u8 0, .int .u8 0, .int .u8 0, .int .u8 0, .int .u8 0, .int .u8 0, .int .u8 0, .int .u8 0] 5)) w.heap.size 25 (stA r) := (Blk.new w _ _).alloc _
  have o0 : ((w.alloc (.cells (stA r) 25)).alloc (.cells #[.int .u8 0, .int .u8 0, .int .u8 0, .int .u8 0, .int .u8 0, .int .u8 0, .int .u8 0, .int .u8 0, .int .u8 0, .int .u8 0, .int .u8 0, .int .u8 0, .int .u8 0, .int .u8 0, .int .u8 0, .int .u8 0, .int .u8 0] 5)).ownsRow w.heap.size 5 1 (.slice (some ⟨w.heap.size + 1, 0, none⟩) 0 17) 0 [] := by
    have := World.ownsRow_made (base := w.heap.size) (e := 5) (size := 1) (w.alloc (.cells (stA r) 25)) #[.int .u8 0, .int .u8 0, .int .u8 0, .int .u8 0, .int .u8 0, .int .u8 0, .int .u8 0, .int .u8 0, .int .u8 0, .int .u8 0, .int .u8 0, .int .u8 0, .int .u8 0, .int .u8 0, .int .u8 0, .int .u8 0, .int .u8 0] 17 (by simp) (by unfold maxLen; decide) rfl
    simpa using this
  have b0 : Below w.heap.size w ((w.alloc (.cells (stA r) 25)).alloc (.cells #[.int .u8 0, .int .u8 0, .int .u8 0, .int .u8 0, .int .u8 0, .int .u8 0, .int .u8 0, .int .u8 0, .int .u8 0, .int .u8 0, .int .u8 0, .int .u8 0, .int .u8 0, .int .u8 0, .int .u8 0, .int .u8 0, .int .u8 0] 5)) := ((Below.refl _ w).alloc (Nat.le_refl _) _).alloc (by simp) _
  have B0 := Lib.hid b0
  have O0 := Lib.hid o0
  clear b0 o0
  go_wp2_with (refine wpList_load_row rfl 25 (.tmp 1) rfl w.heap.size (by rfl) 25 (stA r) (0, 0) _ k0 Tryd.underlying25 rfl H8.out ?_)
  refine (sall_any r HR.out _).mono ?_
  rintro e w2 ⟨rfl, hb⟩
  have B2 := Lib.hid (B0.out.trans (hb.mono B0.out.size))
  have O2 := Lib.hid (own_belowS O0.out hb)
  clear hb k0 B0 O0
  go_wp2_with fail
  go_loopw [3, 9] (fun v i wr => ∃ q : Nat, q ≤ 16 ∧ i = .int .i64 q ∧ wr.ownsRow w.heap.size 5 1 v (byL r q).length (byL r q) ∧ Below w.heap.size w wr) (fun _ i _ => 16 - (intOf i).toNat)
  case atStart => exact ⟨0, by omega, rfl, O2.out, B2.out⟩
  case round =>
    clear B2 O2
    obtain ⟨q, hq, rfl, own, hB⟩ := hrel
    have hlen := byL_len r q
    by_cases hlt : q < 16
    · have q0 : (0 : Int) ≤ q := by omega
      have q1 : (q : Int) < 16 := by omega
      have hx := rw_ix_ r q hlt
      by_cases h5 : q = 5
      · subst h5
        obtain ⟨p0, p1⟩ := st_pc HR.out
        obtain ⟨p, hp⟩ : ∃ p, r 5 = p := ⟨_, rfl⟩
        have HN : Hid (byL r 6 = byL r 5 ++ [.int .u8 (p % 256)] ++ [.int .u8 (p / 256)]) := Lib.hid (by rw [← hp]; rfl)
        rw [hp] at hx p0 p1
        rw [show ((5 : Nat) : Int) = 5 from rfl] at hx
        have hlo := fun W => lo_any p W
        have hhi := fun W => hi_any p W
        rw [show IntKind.u8.wrap p = p % 256 by simp [IntKind.wrap, IntKind.signed, IntKind.bits]] at hlo
        rw [IntWalk.u8_in (p / 256) (by omega)] at hhi
        obtain ⟨x, hx'⟩ : ∃ x, p % 256 = x := ⟨_, rfl⟩
        obtain ⟨y, hy'⟩ : ∃ y, p / 256 = y := ⟨_, rfl⟩
        rw [hx'] at hlo HN
        rw [hy'] at hhi HN
        have x0 : 0 ≤ x ∧ x ≤ 255 := by omega
        have y0 : 0 ≤ y ∧ y ≤ 255 := by omega
        obtain ⟨v', w', hrun, own', gb⟩ := more_new (P := Tryd.prog) (t := 26) (e := 5) (ty := 26) (c := 1) (m := 1) Tryd.underlying26 u8_inf_ rfl (by decide) own #[.int .u8 x] rfl (fun u hu => by simp at hu; subst hu; rfl) rfl (by omega) (by omega) hB.size
        have kB : Below w.heap.size w w' := (hB.alloc hB.size (.cells #[.int .u8 x] 5)).grown gb (by simp; have := hB.size; omega) (fun j h => (own.lt j h).1)
        obtain ⟨v2, w2', hrun2, own2, gb2⟩ := more_new (P := Tryd.prog) (t := 26) (e := 5) (ty := 26) (c := 1) (m := 1) Tryd.underlying26 u8_inf_ rfl (by decide) own' #[.int .u8 y] rfl (fun u hu => by simp at hu; subst hu; rfl) rfl (by omega) (by omega) kB.size
        have kB2 : Below w.heap.size w w2' := (kB.alloc kB.size (.cells #[.int .u8 y] 5)).grown gb2 (by simp; have := kB.size; omega) (fun j h => (own'.lt j h).1)
        have KB := Lib.hid kB2
        have OW := Lib.hid own2
        clear kB own' gb own hB hx' hlen kB2 own2 gb2 hy' hp p0 p1
        go_wp2_with (first | (go_at_call 24; refine (hlo _).mono ?_; rintro e w' ⟨rfl, rfl⟩) | (go_at_call 28; refine (hhi _).mono ?_; rintro e w' ⟨rfl, rfl⟩) | (at_builtin; refine wpList_append_run rfl (.tmp 13) (.tmp 16) 26 rfl rfl rfl hrun ?_) | (at_builtin; refine wpList_append_run rfl (.tmp 20) (.tmp 23) 26 rfl rfl rfl hrun2 ?_))
        go_roundw
        case rel => exact ⟨6, by omega, by go_num, by rw [HN.out, List.length_append, List.length_append]; exact OW.out, KB.out⟩
        case measure => simp [intOf]
      · have hb := (st_le HR.out) q hlt h5
        have hlo := fun W => slo_any (r q) hb.1 hb.2 W
        have e5 : ((q : Int) == 5) = false := by simp; omega
        have HN : Hid (byL r (q + 1) = byL r q ++ [.int .u8 (r q)]) := Lib.hid (by simp only [byL]; rw [if_neg h5])
        obtain ⟨x, hx'⟩ : ∃ x, r q = x := ⟨_, rfl⟩
        rw [hx'] at hx hlo hb HN
        obtain ⟨v', w', hrun, own', gb⟩ := more_new (P := Tryd.prog) (t := 26) (e := 5) (ty := 26) (c := 1) (m := 1) Tryd.underlying26 u8_inf_ rfl (by decide) own #[.int .u8 x] rfl (fun u hu => by simp at hu; subst hu; rfl) rfl (by omega) (by omega) hB.size
        have kB : Below w.heap.size w w' := (hB.alloc hB.size (.cells #[.int .u8 x] 5)).grown gb (by simp; have := hB.size; omega) (fun j h => (own.lt j h).1)
        have KB := Lib.hid kB
        have OW := Lib.hid own'
        clear kB own' gb own hB hx' hlen
        go_wp2_with (first | (go_at_call 24; refine (hlo _).mono ?_; rintro e w' ⟨rfl, rfl⟩) | (at_builtin; refine wpList_append_run rfl (.tmp 13) (.tmp 16) 26 rfl rfl rfl hrun ?_))
        go_roundw
        case rel => exact ⟨q + 1, by omega, by go_num, by rw [HN.out, List.length_append]; exact OW.out, KB.out⟩
        case measure => simp [intOf]; omega
    · obtain rfl : q = 16 := by omega
      have OWN := Lib.hid own
      have HB := Lib.hid hB
      clear own hB hlen
      go_wp2_with fail
      go_ret
      exact ⟨⟨_, rfl, by rw [← byL_all]; exact OWN.out⟩, HB.out⟩
end Go.Proofs.YtnnfnjbfjgjgnaaDoor
