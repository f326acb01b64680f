/-
  Texts of these proofs, one behind the other: Mmu9, C1, C2.
-/
import Derived.Test.YtccimkmlbcgekaaGreatKA11
import Derived.Test.YtccimkmlbcgekaaGreatKA12
import Derived.Deep.Cut
import Derived.Deep.CutRange
import Derived.Deep.CutBlock
import Derived.Test.YtccimkmlbcgekaaGreatProg
import Derived.Test.YtccimkmlbcgekaaGreatKA05
import Derived.Test.YtccimkmlbcgekaaGreatKA01
import Derived.Deep.QuietTactic
import Derived.BigQuiet
import Derived.Deep.RegionWith
import Derived.Deep.WholeRow
import Derived.Lib.Hide
namespace Go.Proofs.YtccimkmlbcgekaaGreat
open Go.RowKit Go.Shelf
set_option linter.unusedVariables false
set_option linter.unusedSimpArgs false
set_option maxRecDepth 100000
/-- The lowest k pages. -/
def flL (k : Nat) : List (Fin 8) := (List.finRange 8).take k
theorem flL_all : flL 8 = [0, 1, 2, 3, 4, 5, 6, 7] := by decide
theorem flL_snoc : ∀ k : Fin 8, flL (k.val + 1) = flL k.val ++ [k] := by decide
theorem flL_le : ∀ k : Fin 9, (flL k.val).length ≤ 8 := by decide
theorem info16 : (Tryz.prog.info? 69).map (fun i => (i.zero, i.size, i.bytes)) = some (some (.int .u16 0), 1, 2) := by kernel_rfl
theorem seL_len (z : Nat → Int) (a : Int) (l : List (Fin 8)) : (seL z a l).length ≤ l.length := by
  unfold seL
  rw [List.length_map]
  exact List.length_filter_le _ _
/-- What is seen, as numbers. -/
def seN (z : Nat → Int) (a : Int) : List Int := (([0, 1, 2, 3, 4, 5, 6, 7] : List (Fin 8)).filter fun x => z x.val == bankI a).map fun x => (x.val : Int) * 8192 + offI a
def seZ (z : Nat → Int) (a : Int) (i : Nat) : Int := (seN z a).getD i 0
theorem seL_ints (z : Nat → Int) (a : Int) : seL z a [0, 1, 2, 3, 4, 5, 6, 7] = intsOf .u16 (seZ z a) (seN z a).length := by
  apply List.ext_getElem?
  intro i
  have e : seL z a [0, 1, 2, 3, 4, 5, 6, 7] = (seN z a).map (Value.int .u16) := by unfold seL seN; rw [List.map_map]; rfl
  rw [e]
  by_cases hi : i < (seN z a).length
  · rw [intsOf_at _ _ _ _ hi, List.getElem?_map, List.getElem?_eq_getElem hi]
    unfold seZ
    rw [List.getD_eq_getElem?_getD, List.getElem?_eq_getElem hi]
    rfl
  · rw [List.getElem?_eq_none (by simpa using hi), List.getElem?_eq_none (by rw [intsOf_len]; omega)]
theorem seN_len (z : Nat → Int) (a : Int) : (seL z a [0, 1, 2, 3, 4, 5, 6, 7]).length = (seN z a).length := by rw [seL_ints, intsOf_len]
theorem seN_le (z : Nat → Int) (a : Int) : (seN z a).length ≤ 8 := by rw [← seN_len]; exact seL_len z a _
theorem seZ_spec (z : Nat → Int) (a : Int) (a0 : 0 ≤ a) (i : Nat) (hi : i < (seN z a).length) : 0 ≤ seZ z a i ∧ seZ z a i ≤ 65535 ∧ phI z (seZ z a i) = a % 2097152 := by
  have hm : seZ z a i ∈ seN z a := by
    unfold seZ
    rw [List.getD_eq_getElem?_getD, List.getElem?_eq_getElem hi]
    exact List.getElem_mem hi
  unfold seN at hm
  rw [List.mem_map] at hm
  obtain ⟨x, hx, he⟩ := hm
  rw [List.mem_filter] at hx
  have hb : z x.val = bankI a := by simpa using hx.2
  have := x.isLt
  have o : 0 ≤ offI a ∧ offI a < 8192 := by unfold offI; omega
  rw [← he]
  refine ⟨by omega, by omega, ?_⟩
  unfold phI
  rw [show ((x.val : Int) * 8192 + offI a).toNat / 8192 = x.val by omega, hb]
  unfold bankI offI at *
  omega
theorem seZ_wf (z : Nat → Int) (a : Int) (a0 : 0 ≤ a) (i : Nat) (hi : i < (seN z a).length) : (Lit.int .u16 (seZ z a i)).wf = true := by
  obtain ⟨h0, h1, _⟩ := seZ_spec z a a0 i hi
  exact WalkArith.wf_u16 (by omega)
end Go.Proofs.YtccimkmlbcgekaaGreat
namespace Go.Proofs.YtccimkmlbcgekaaGreat
open Go.RowKit
def oneI (b : Bool) : Int := if b then 1 else 0
def lenI (f x : Bool) : Int := (if f then 3 else 12) * (if x then 2 else 1)
theorem one_any (b : Bool) (w : World) : Calls Tryz.prog 164 #[.bool b] w fun e w' => e = .returned (.int .i64 (oneI b)) ∧ w' = w := by
  cases b
  all_goals
    go_enter Tryz.func164, Tryz.ntmps164
    go_wp2
    go_ret
    exact ⟨rfl, rfl⟩
set_option maxHeartbeats 400000 in
theorem length_any (f x : Bool) (w : World) : Calls Tryz.prog 163 #[.bool f, .bool x] w fun e w' => e = .returned (.int .i64 (lenI f x)) ∧ Below w.heap.size w w' := by
  have o1 : oneI true = 1 := rfl
  have o0 : oneI false = 0 := rfl
  cases f <;> cases x
  all_goals
    go_enter Tryz.func163, Tryz.ntmps163
    go_wp2_with fail
    go_quiet ((go_at_call 164; exact Calls.quiet_of_same (one_any _ _)))
    go_wp2_with fail
    go_ret
    exact ⟨rfl, below_drewN ((Below.refl _ _).alloc (Nat.le_refl _) _) _⟩
theorem rlength_any (f x : Bool) (w : World) : Calls Tryz.prog 180 #[.bool f, .bool x] w fun e w' => e = .returned (.int .i64 (lenI f x)) ∧ w = w' := by
  cases f <;> cases x
  all_goals
    go_enter Tryz.func180, Tryz.ntmps180
    go_wp2
    go_ret
    exact ⟨rfl, rfl⟩
/-- The cells of a clock; of the reference's clock. -/
def ck (now cyc : Int) (fast asked next : Bool) : Array Value := #[.int .i64 now, .int .i64 cyc, .bool fast, .bool asked, .bool next]
def rk (now cyc : Int) (fast asked next : Bool) : Array Value := #[.int .i64 now, .bool fast, .int .i64 cyc, .bool asked, .bool next]
def heldI (n : Int) : Int := if n < 0 then 0 else if 1125899906842624 < n then 1125899906842624 else n
set_option maxHeartbeats 400000 in
theorem at_any (n : Int) (f : Bool) (w : World) : Calls Tryz.prog 99 #[.int .i64 n, .bool f] w fun e w' => e = .returned (.pointer (some ⟨w.heap.size, 0, none⟩)) ∧ w' = w.alloc (.cells (ck (heldI n) 0 f false false) 132) := by
  by_cases h : n < 0
  · have e : heldI n = 0 := by unfold heldI; rw [if_pos h]
    rw [e]; clear e
    go_enter Tryz.func99, Tryz.ntmps99
    go_wp2
    go_ret
    exact ⟨rfl, rfl⟩
  by_cases h' : 1125899906842624 < n
  · have e : heldI n = 1125899906842624 := by unfold heldI; rw [if_neg h, if_pos h']
    rw [e]; clear e
    go_enter Tryz.func99, Tryz.ntmps99
    go_wp2
    go_ret
    exact ⟨rfl, rfl⟩
  · have e : heldI n = n := by unfold heldI; rw [if_neg h, if_neg h']
    rw [e]; clear e
    go_enter Tryz.func99, Tryz.ntmps99
    go_wp2
    go_ret
    exact ⟨rfl, rfl⟩
section
variable {w : World} {g : Nat} {now cyc : Int} {fast asked next : Bool}
theorem ck_cells (h : Blk w g 132 (ck now cyc fast asked next)) : w.cell? ⟨g, 0, none⟩ = some (.int .i64 now) ∧ w.cell? ⟨g, 1, none⟩ = some (.int .i64 cyc) ∧ w.cell? ⟨g, 2, none⟩ = some (.bool fast) ∧ w.cell? ⟨g, 3, none⟩ = some (.bool asked) ∧ w.cell? ⟨g, 4, none⟩ = some (.bool next) ∧ ∀ o, w.frozen? ⟨g, o, none⟩ = false :=
  ⟨h.cell 0, h.cell 1, h.cell 2, h.cell 3, h.cell 4, h.frozen⟩
theorem rk_cells (h : Blk w g 152 (rk now cyc fast asked next)) : w.cell? ⟨g, 0, none⟩ = some (.int .i64 now) ∧ w.cell? ⟨g, 1, none⟩ = some (.bool fast) ∧ w.cell? ⟨g, 2, none⟩ = some (.int .i64 cyc) ∧ w.cell? ⟨g, 3, none⟩ = some (.bool asked) ∧ w.cell? ⟨g, 4, none⟩ = some (.bool next) ∧ ∀ o, w.frozen? ⟨g, o, none⟩ = false :=
  ⟨h.cell 0, h.cell 1, h.cell 2, h.cell 3, h.cell 4, h.frozen⟩
theorem now_any (h : Blk w g 132 (ck now cyc fast asked next)) : Calls Tryz.prog 91 #[.pointer (some ⟨g, 0, none⟩)] w fun e w' => e = .returned (.int .i64 now) ∧ w' = w := by
  obtain ⟨c0, c1, c2, c3, c4, hf⟩ := ck_cells h
  clear h
  go_enter Tryz.func91, Tryz.ntmps91
  go_wp2
  go_ret
  exact ⟨rfl, rfl⟩
theorem fast_any (h : Blk w g 132 (ck now cyc fast asked next)) : Calls Tryz.prog 93 #[.pointer (some ⟨g, 0, none⟩)] w fun e w' => e = .returned (.bool fast) ∧ w' = w := by
  obtain ⟨c0, c1, c2, c3, c4, hf⟩ := ck_cells h
  clear h
  go_enter Tryz.func93, Tryz.ntmps93
  go_wp2
  go_ret
  exact ⟨rfl, rfl⟩
end
theorem now_nil (w : World) : Calls Tryz.prog 91 #[.pointer none] w fun e w' => e = .returned (.int .i64 0) ∧ w' = w := by
  go_enter Tryz.func91, Tryz.ntmps91
  go_wp2
  go_ret
  exact ⟨rfl, rfl⟩
theorem fast_nil (w : World) : Calls Tryz.prog 93 #[.pointer none] w fun e w' => e = .returned (.bool false) ∧ w' = w := by
  go_enter Tryz.func93, Tryz.ntmps93
  go_wp2
  go_ret
  exact ⟨rfl, rfl⟩
theorem cycle_nil (x : Bool) (w : World) : Calls Tryz.prog 123 #[.pointer none, .bool x] w fun e w' => e = .returned (.int .i64 0) ∧ w' = w := by
  go_enter Tryz.func123, Tryz.ntmps123
  go_wp2
  go_ret
  exact ⟨rfl, rfl⟩
theorem ask_nil (x : Bool) (w : World) : Calls Tryz.prog 75 #[.pointer none, .bool x] w fun e w' => e = .returned (.tuple #[]) ∧ w' = w := by
  go_enter Tryz.func75, Tryz.ntmps75
  go_wp2
  go_end0
  exact ⟨rfl, rfl⟩
theorem turn_nil (w : World) : Calls Tryz.prog 76 #[.pointer none] w fun e w' => e = .returned (.tuple #[]) ∧ w' = w := by
  go_enter Tryz.func76, Tryz.ntmps76
  go_wp2
  go_returns
  exact ⟨rfl, rfl⟩
theorem rat_any (n : Int) (f : Bool) (w : World) : Calls Tryz.prog 52 #[.int .i64 n, .bool f] w fun e w' => e = .returned (.pointer (some ⟨w.heap.size, 0, none⟩)) ∧ w' = w.alloc (.cells (rk (heldI n) 0 f false false) 152) := by
  by_cases h : n < 0
  · have e : heldI n = 0 := by unfold heldI; rw [if_pos h]
    rw [e]; clear e
    go_enter Tryz.func52, Tryz.ntmps52
    go_wp2
    go_ret
    exact ⟨rfl, rfl⟩
  by_cases h' : 1125899906842624 < n
  · have e : heldI n = 1125899906842624 := by unfold heldI; rw [if_neg h, if_pos h']
    rw [e]; clear e
    go_enter Tryz.func52, Tryz.ntmps52
    go_wp2
    go_ret
    exact ⟨rfl, rfl⟩
  · have e : heldI n = n := by unfold heldI; rw [if_neg h, if_neg h']
    rw [e]; clear e
    go_enter Tryz.func52, Tryz.ntmps52
    go_wp2
    go_ret
    exact ⟨rfl, rfl⟩
end Go.Proofs.YtccimkmlbcgekaaGreat
namespace Go.Proofs.YtccimkmlbcgekaaGreat
open Go.RowKit
theorem lenI_bd (f x : Bool) : 3 ≤ lenI f x ∧ lenI f x ≤ 24 := by cases f <;> cases x <;> decide
theorem oneI_bd (x : Bool) : 0 ≤ oneI x ∧ oneI x ≤ 1 := by cases x <;> decide
theorem gb_below {a w w' : World} {row : Option Nat} (h : a.grownBy w row) (hb : Below w.heap.size w w') : a.grownBy w' row :=
  ⟨hb.os.trans h.os, hb.tape.trans h.tape, hb.output.trans h.output, Nat.le_trans h.size hb.size, fun i hi hr => (hb.block i (Nat.lt_of_lt_of_le hi h.size)).trans (h.block i hi hr)⟩
theorem gb_set {a w : World} {b : Nat} (h : a.grownBy w (some b)) (i : Nat) (v : Value) : a.grownBy (w.setCell ⟨b, i, none⟩ v) (some b) :=
  ⟨h.os, h.tape, h.output, by simpa using h.size, fun k hk hr => (Below.heap_setCell w ⟨b, i, none⟩ v k (fun e => hr (by rw [e]))).trans (h.block k hk hr)⟩
theorem gb_drewN {a w : World} {row : Option Nat} (h : a.grownBy w row) (n : Nat) : a.grownBy (w.drewN n) row := ⟨h.os, h.tape, h.output, h.size, h.block⟩
theorem gb_drew {a w : World} {row : Option Nat} (h : a.grownBy w row) : a.grownBy w.drew row := ⟨h.os, h.tape, h.output, h.size, h.block⟩
theorem gb_refl (w : World) (row : Option Nat) : w.grownBy w row := ⟨rfl, rfl, rfl, Nat.le_refl _, fun _ _ _ => rfl⟩
set_option maxHeartbeats 4000000 in
theorem cycle_any {w : World} {g : Nat} {now cyc : Int} {fast asked next : Bool} (x : Bool) (h : Blk w g 132 (ck now cyc fast asked next)) (n0 : 0 ≤ now) (n1 : now ≤ 1152921504606846976) (k0 : 0 ≤ cyc) (k1 : cyc ≤ 1152921504606846976) :
    Calls Tryz.prog 123 #[.pointer (some ⟨g, 0, none⟩), .bool x] w fun e w' => e = .returned (.int .i64 now) ∧ (Blk w' g 132 (ck (now + lenI fast x) (cyc + (1 + oneI x)) fast asked next) ∧ w.grownBy w' (some g)) := by
  obtain ⟨c0, c1, c2, c3, c4, hf⟩ := ck_cells h
  have lb := lenI_bd fast x
  have ob := oneI_bd x
  have e1 : IntKind.i64.wrap (now + lenI fast x) = now + lenI fast x := IntWalk.i64_in _ (by omega)
  have e2 : IntKind.i64.wrap (1 + oneI x) = 1 + oneI x := IntWalk.i64_in _ (by omega)
  have e3 : IntKind.i64.wrap (cyc + (1 + oneI x)) = cyc + (1 + oneI x) := IntWalk.i64_in _ (by omega)
  clear lb ob n0 n1 k0 k1
  go_enter Tryz.func123, Tryz.ntmps123
  go_wp2_with fail
  go_region_with (go_at_call 163; refine (length_any _ _ _).mono ?_; rintro e w1 ⟨rfl, hb1⟩; have h1 : Blk w1 g 132 (ck now cyc fast asked next) := Blk.later h hb1 rfl; obtain ⟨d0, d1, d2, d3, d4, hf1⟩ := ck_cells h1; have hz1 := hb1.size)
  all_goals
    go_wp2_with fail
    go_region_with (go_at_call 164; refine (one_any _ _).mono ?_; rintro e w2 ⟨rfl, rfl⟩)
  all_goals
    go_wp2_with fail
    go_ret
    refine ⟨rfl, (h1.set_ 0 _).set_ 1 _, gb_drew (gb_set (gb_set (gb_below (gb_drew (gb_refl w _)) hb1) 0 _) 1 _)⟩
section
variable {w : World} {g : Nat} {now cyc : Int} {fast asked next : Bool}
set_option maxHeartbeats 1000000 in
theorem rcycle_any (x : Bool) (h : Blk w g 152 (rk now cyc fast asked next)) (n0 : 0 ≤ now) (n1 : now ≤ 1152921504606846976) (k0 : 0 ≤ cyc) (k1 : cyc ≤ 1152921504606846976) :
    Calls Tryz.prog 149 #[.pointer (some ⟨g, 0, none⟩), .bool x] w fun e w' => e = .returned (.int .i64 now) ∧ (Blk w' g 152 (rk (now + lenI fast x) (cyc + (1 + oneI x)) fast asked next) ∧ w.grownBy w' (some g)) := by
  obtain ⟨c0, c1, c2, c3, c4, hf⟩ := rk_cells h
  have lb := lenI_bd fast x
  cases x
  · have e0 : cyc + (1 + oneI false) = cyc + 1 := by simp [oneI]
    rw [e0]
    clear e0
    go_enter Tryz.func149, Tryz.ntmps149
    go_wp2_with (go_at_call 180; refine (rlength_any _ _ _).mono ?_; rintro e w2 ⟨rfl, rfl⟩)
    go_ret
    exact ⟨rfl, (h.set_ 0 _).set_ 2 _, gb_set (gb_set (gb_refl w _) 0 _) 2 _⟩
  · have e0 : cyc + (1 + oneI true) = cyc + 1 + 1 := by simp [oneI]; omega
    rw [e0]
    clear e0
    go_enter Tryz.func149, Tryz.ntmps149
    go_wp2_with (go_at_call 180; refine (rlength_any _ _ _).mono ?_; rintro e w2 ⟨rfl, rfl⟩)
    go_ret
    exact ⟨rfl, ((h.set_ 0 _).set_ 2 _).set_ 2 _, gb_set (gb_set (gb_set (gb_refl w _) 0 _) 2 _) 2 _⟩
set_option maxHeartbeats 1000000 in
theorem ask_any (x : Bool) (h : Blk w g 132 (ck now cyc fast asked next)) :
    Calls Tryz.prog 75 #[.pointer (some ⟨g, 0, none⟩), .bool x] w fun e w' => e = .returned (.tuple #[]) ∧ (Blk w' g 132 (ck now cyc fast true x) ∧ w.grownBy w' (some g)) := by
  obtain ⟨c0, c1, c2, c3, c4, hf⟩ := ck_cells h
  go_enter Tryz.func75, Tryz.ntmps75
  go_wp2
  go_returns
  exact ⟨rfl, (h.set_ 3 _).set_ 4 _, gb_set (gb_set (gb_refl w _) 3 _) 4 _⟩
set_option maxHeartbeats 1000000 in
theorem rask_any (x : Bool) (h : Blk w g 152 (rk now cyc fast asked next)) :
    Calls Tryz.prog 58 #[.pointer (some ⟨g, 0, none⟩), .bool x] w fun e w' => e = .returned (.tuple #[]) ∧ (Blk w' g 152 (rk now cyc fast true x) ∧ w.grownBy w' (some g)) := by
  obtain ⟨c0, c1, c2, c3, c4, hf⟩ := rk_cells h
  go_enter Tryz.func58, Tryz.ntmps58
  go_wp2
  go_returns
  exact ⟨rfl, (h.set_ 3 _).set_ 4 _, gb_set (gb_set (gb_refl w _) 3 _) 4 _⟩
end
section
variable {w : World} {g : Nat} {now cyc : Int} {fast asked next : Bool}
set_option maxHeartbeats 1000000 in
theorem turn_no (h : Blk w g 132 (ck now cyc fast false false)) :
    Calls Tryz.prog 76 #[.pointer (some ⟨g, 0, none⟩)] w fun e w' => e = .returned (.tuple #[]) ∧ (Blk w' g 132 (ck now cyc fast false false) ∧ w.grownBy w' (some g)) := by
  obtain ⟨c0, c1, c2, c3, c4, hf⟩ := ck_cells h
  go_enter Tryz.func76, Tryz.ntmps76
  go_wp2
  go_returns
  exact ⟨rfl, h, gb_refl w _⟩
set_option maxHeartbeats 1000000 in
theorem turn_yes (h : Blk w g 132 (ck now cyc fast true next)) :
    Calls Tryz.prog 76 #[.pointer (some ⟨g, 0, none⟩)] w fun e w' => e = .returned (.tuple #[]) ∧ (Blk w' g 132 (ck now cyc next false false) ∧ w.grownBy w' (some g)) := by
  obtain ⟨c0, c1, c2, c3, c4, hf⟩ := ck_cells h
  go_enter Tryz.func76, Tryz.ntmps76
  go_wp2
  go_returns
  exact ⟨rfl, ((h.set_ 2 _).set_ 3 _).set_ 4 _, gb_set (gb_set (gb_set (gb_refl w _) 2 _) 3 _) 4 _⟩
set_option maxHeartbeats 1000000 in
theorem rturn_any (hK : Blk w g 152 (rk now cyc fast asked next)) :
    Calls Tryz.prog 59 #[.pointer (some ⟨g, 0, none⟩)] w fun e w' => e = .returned (.tuple #[]) ∧ (Blk w' g 152 (rk now cyc (if asked then next else fast) false next) ∧ w.grownBy w' (some g)) := by
  obtain ⟨c0, c1, c2, c3, c4, hf⟩ := rk_cells hK
  cases asked
  · go_enter Tryz.func59, Tryz.ntmps59
    go_wp2
    go_returns
    exact ⟨rfl, hK.set_ 3 _, gb_set (gb_refl w _) 3 _⟩
  · go_enter Tryz.func59, Tryz.ntmps59
    go_wp2
    go_returns
    exact ⟨rfl, (hK.set_ 1 _).set_ 3 _, gb_set (gb_set (gb_refl w _) 1 _) 3 _⟩
end
end Go.Proofs.YtccimkmlbcgekaaGreat
