/-
  Moves: the ways of a block, given in their order by a function that is ranged over.
-/
import Derived.Test.YtndhkdcdhpfajaaDoorMov1
import Derived.Test.YtndhkdcdhpfajaaDoorG28
import Derived.RangeFuncFrom
import Derived.RangeFuncGives
import Derived.OwnWalkIn
import Derived.TacticsInMore
import Derived.RegionIn
import Derived.LoopNIn
import Derived.LoopIn
import Derived.Sort.LoopGhostIn
import Derived.Sort.CutIn
import Derived.Sort.QuietIn
import Derived.Shelf.RegionOpen
import Derived.Shelf.AbstractIn
namespace Go.Proofs.YtndhkdcdhpfajaaDoor
open Go.RowKit Go.Shelf
set_option linter.unusedVariables false
set_option linter.unusedSimpArgs false
set_option maxRecDepth 100000
attribute [local go_sem] Oper.semAt_some
/-- The numbers of the bytes that are moved, up to one. -/
def wayL (k q : Nat) : List Nat := if k < 5 then List.range q else []
theorem wayL_len (k q : Nat) : (wayL k q).length ≤ q := by unfold wayL; split <;> simp
theorem wayL_snoc (k q : Nat) (h : k < 5) : wayL k (q + 1) = wayL k q ++ [q] := by unfold wayL; rw [if_pos h, if_pos h, List.range_succ]
theorem wayL_pre (k q r : Nat) (h : q ≤ r) : wayL k q <+: wayL k r := by
  unfold wayL
  split
  · obtain ⟨d, rfl⟩ : ∃ d, r = q + d := ⟨r - q, by omega⟩
    rw [List.range_add]
    exact List.prefix_append _ _
  · exact List.prefix_rfl
theorem vgrown_of_below {w w' : World} (h : Below w.heap.size w w') : w.grownBy w' none := ⟨h.os, h.tape, h.output, h.size, fun k hk _ => h.block k hk⟩
/-- The four cells that the iterator reads. -/
def Way4 (W : World) (bl bk bf bt : Nat) (l k f t : Int) : Prop := Blk W bl 22 #[.int .u16 l] ∧ Blk W bk 5 #[.int .u8 k] ∧ Blk W bf 22 #[.int .u16 f] ∧ Blk W bt 22 #[.int .u16 t]
def KpW (bl bk bf bt : Nat) (l k f t : Int) (A B : World) : Prop := Way4 A bl bk bf bt l k f t → Way4 B bl bk bf bt l k f t
theorem Way4.below {W W' : World} {bl bk bf bt B : Nat} {l k f t : Int} (h : Way4 W bl bk bf bt l k f t) (hb : Below B W W') (hB : bl < B ∧ bk < B ∧ bf < B ∧ bt < B) : Way4 W' bl bk bf bt l k f t :=
  ⟨h.1.below hb hB.1, h.2.1.below hb hB.2.1, h.2.2.1.below hb hB.2.2.1, h.2.2.2.below hb hB.2.2.2⟩
theorem Way4.lt {W : World} {bl bk bf bt : Nat} {l k f t : Int} (h : Way4 W bl bk bf bt l k f t) : bl < W.heap.size ∧ bk < W.heap.size ∧ bf < W.heap.size ∧ bt < W.heap.size := ⟨h.1.lt, h.2.1.lt, h.2.2.1.lt, h.2.2.2.lt⟩
def wayA (k : Nat) (f t : Int) (x : Nat) : Array Value := #[.agg #[.int .u16 (mvF k f x), .int .u16 (mvT k t x)]]
set_option maxHeartbeats 8000000 in
theorem ways_stops (n : Nat) (hn : 2 ≤ n) (bl bk bf bt k : Nat) (f t l : Int) (f0 : 0 ≤ f) (f1 : f ≤ 65535) (t0 : 0 ≤ t) (t1 : t ≤ 65535) (l0 : 0 ≤ l) (l1 : l ≤ 65535) (w : World) (hb : Way4 w bl bk bf bt l (k : Int) f t) :
    SeqStopsK Fence.wide n Tryd.prog 27 #[.pointer (some ⟨bl, 0, none⟩), .pointer (some ⟨bk, 0, none⟩), .pointer (some ⟨bf, 0, none⟩), .pointer (some ⟨bt, 0, none⟩)] (wayA k f t) (KpW bl bk bf bt l (k : Int) f t) (fun xs => xs = wayL k (cntP l).toNat) (fun pre => pre <+: wayL k (cntP l).toNat) 65536 w := fun L J Jx W hW hJ hJx hY h0 => by
  have hw4 := hb.below hW hb.lt
  have H4 := Lib.hid hw4
  have cl : W.cell? ⟨bl, 0, none⟩ = some (.int .u16 l) := hw4.1.cell 0
  obtain ⟨c0, c1⟩ := cntP_bd l l0 l1
  have hC := fun W => vcount_any l l0 l1 W
  obtain ⟨c, hc⟩ : ∃ c, cntP l = c := ⟨_, rfl⟩
  rw [hc] at hC c0 c1 ⊢
  clear hc hb hW hw4
  refine callsIn_of_wp Tryd.func27 rfl trivial ?_ rfl
  simp only [Tryd.ntmps27, List.size_toArray, List.length_cons, List.length_nil, Nat.reduceAdd, Nat.reduceSub, Array.replicate_succ, Array.replicate_zero, List.push_toArray, List.append_toArray, List.nil_append, List.cons_append]
  gi_wp2
  first | refine ⟨trivial, callsIn_wide.2 ?_⟩ | refine ⟨trivial, fun _ => by omega, callsIn_wide.2 ?_⟩
  refine (hC _).mono ?_
  rintro e w' ⟨rfl, rfl⟩
  gi_wp2
  gi_loopw [11] (fun i wr => ∃ q : Nat, (q : Int) ≤ c ∧ (k < 5 ∨ q = 0) ∧ i = .int .i64 q ∧ J (wayL k q) wr ∧ Way4 wr bl bk bf bt l (k : Int) f t) (fun i wr => c.toNat - (intOf i).toNat)
  case atStart =>
    exact ⟨0, by omega, .inr rfl, rfl, by rw [show wayL k 0 = [] by unfold wayL; simp]; exact h0, H4.out⟩
  case round =>
    obtain ⟨q, hq, hk5, rfl, hJs, hB⟩ := hrel
    by_cases hlt : (q : Int) < c
    · have i1 : (0 : Int) ≤ (q : Int) := by omega
      have d1 : wr.cell? ⟨bk, 0, none⟩ = some (.int .u8 (k : Int)) := hB.2.1.cell 0
      have d2 : wr.cell? ⟨bf, 0, none⟩ = some (.int .u16 f) := hB.2.2.1.cell 0
      have d3 : wr.cell? ⟨bt, 0, none⟩ = some (.int .u16 t) := hB.2.2.2.cell 0
      have HB := Lib.hid hB
      have hA := fun W => vat_any k f t (q : Int) f0 f1 t0 t1 (by omega) (by omega) W
      clear hB cl hC
      by_cases hk : k < 5
      · unfold atV at hA
        rw [if_pos ⟨hk, i1⟩] at hA
        obtain ⟨x, hx⟩ : ∃ x, mvF k f (q : Int) = x := ⟨_, rfl⟩
        obtain ⟨y, hy⟩ : ∃ y, mvT k t (q : Int) = y := ⟨_, rfl⟩
        have hwa : wayA k f t q = #[.agg #[.int .u16 x, .int .u16 y]] := by unfold wayA; rw [hx, hy]
        rw [hx, hy] at hA
        have HWA := Lib.hid hwa
        clear hx hy hwa
        gi_wp2
        first | refine ⟨trivial, callsIn_wide.2 ?_⟩ | refine ⟨trivial, fun _ => by omega, callsIn_wide.2 ?_⟩
        refine (hA _).mono ?_
        rintro e W2 ⟨rfl, b2⟩
        have b3 : Below wr.heap.size wr (W2.alloc (.cells #[.int .u16 x, .int .u16 y] 48)) := b2.alloc b2.size _
        have hJ2 := hJ _ _ _ none hJs (vgrown_of_below b3) (fun r h => by cases h)
        obtain ⟨fn, tmps, assign, body, hy, hR⟩ := hY (wayL k q) q _ hJ2 (by have := wayL_len k q; omega)
        rw [HWA.out] at hy
        try dsimp only at hy
        have HW4 := Lib.hid (HB.out.below b3 HB.out.lt)
        gi_wp2
        first | refine hR.mono ?_ | refine ⟨fun _ => by omega, hR.mono ?_⟩
        rintro e W3 (⟨rfl, hJ3, hK3⟩ | ⟨rfl, hJx3⟩)
        · gi_wp2
          go_roundw
          case rel => exact ⟨q + 1, by omega, .inl hk, by go_num, by rw [wayL_snoc k q hk]; exact hJ3, hK3 HW4.out⟩
          case measure => simp [intOf]; omega
        · gi_wp2
          refine bodyPost_ret (results_none rfl _ _ _) rfl ?_
          refine ⟨⟨_, rfl⟩, .inr ⟨_, ?_, hJx3⟩⟩
          have := wayL_pre k (q + 1) c.toNat (by omega)
          rw [wayL_snoc k q hk] at this
          exact this
      · obtain rfl : q = 0 := by omega
        unfold atV at hA
        rw [if_neg (by omega)] at hA
        have hw0 : wayL k 0 = [] := by unfold wayL; simp
        have hwc : wayL k c.toNat = [] := by unfold wayL; rw [if_neg hk]
        gi_wp2
        first | refine ⟨trivial, callsIn_wide.2 ?_⟩ | refine ⟨trivial, fun _ => by omega, callsIn_wide.2 ?_⟩
        refine (hA _).mono ?_
        rintro e W2 ⟨rfl, b2⟩
        have b3 : Below wr.heap.size wr (W2.alloc (.cells #[.int .u16 0, .int .u16 0] 48)) := b2.alloc b2.size _
        have hJ2 := hJ _ _ _ none hJs (vgrown_of_below b3) (fun r h => by cases h)
        gi_wp2
        try (refine ⟨fun _ h => (by cases h), ?_⟩; gi_wp2)
        refine bodyPost_ret (results_none rfl _ _ _) rfl ?_
        refine ⟨⟨_, rfl⟩, .inl ?_⟩
        rw [hw0] at hJ2
        first | exact hJ2 | (rw [hwc]; exact hJ2) | exact ⟨_, hwc.symm, hJ2⟩
    · obtain rfl : c = (q : Int) := by omega
      have i0 : ¬ ((q : Nat) : Int) < q := by omega
      gi_wp2
      go_end0
      first | exact ⟨⟨_, rfl⟩, .inl ⟨_, rfl, hJs⟩⟩ | exact ⟨⟨_, rfl⟩, .inl hJs⟩
end Go.Proofs.YtndhkdcdhpfajaaDoor
