/-
  Texts of these proofs, one behind the other: G6, G12, Bus1.
-/
import Derived.Test.YtleofglnlfpoeaaGreatKBP01
import Derived.Test.YtleofglnlfpoeaaGreatKBP02
namespace Go.Proofs.YtleofglnlfpoeaaGreat
open Go.RowKit
end Go.Proofs.YtleofglnlfpoeaaGreat
namespace Go.Proofs.YtleofglnlfpoeaaGreat
open Go.RowKit
set_option linter.unusedVariables false
/-- Of the blocks that were there those of L alone may have changed. -/
structure Kp (L : List Nat) (w w' : World) : Prop where
  os : w'.os = w.os
  tape : w'.tape = w.tape
  output : w'.output = w.output
  size : w.heap.size ≤ w'.heap.size
  block : ∀ k, k < w.heap.size → k ∉ L → w'.heap[k]? = w.heap[k]?
section
variable {L M : List Nat} {a b c w w' : World} {g : Nat} {t : TypeId} {cs : Array Value}
theorem Kp.refl (L : List Nat) (w : World) : Kp L w w := ⟨rfl, rfl, rfl, Nat.le_refl _, fun _ _ _ => rfl⟩
theorem Kp.mono (h : Kp L a b) (hs : ∀ x ∈ L, x ∈ M) : Kp M a b := ⟨h.os, h.tape, h.output, h.size, fun k hk hn => h.block k hk fun e => hn (hs k e)⟩
/-- What is changed afterwards may be of the blocks made since. -/
theorem Kp.trans (h : Kp L a b) (k : Kp M b c) (hs : ∀ x ∈ M, x ∈ L ∨ a.heap.size ≤ x) : Kp L a c :=
  ⟨k.os.trans h.os, k.tape.trans h.tape, k.output.trans h.output, Nat.le_trans h.size k.size, fun i hi hn =>
    (k.block i (Nat.lt_of_lt_of_le hi h.size) fun e => (hs i e).elim hn (by omega)).trans (h.block i hi hn)⟩
theorem Kp.drew (h : Kp L a w) : Kp L a w.drew := ⟨h.os, h.tape, h.output, h.size, h.block⟩
theorem Kp.drewN (h : Kp L a w) (n : Nat) : Kp L a (w.drewN n) := ⟨h.os, h.tape, h.output, h.size, h.block⟩
theorem Kp.alloc (h : Kp L a w) (o : Obj) : Kp L a (w.alloc o) :=
  ⟨h.os, h.tape, h.output, by have := h.size; simp; omega, fun k hk hn => (Below.heap_alloc _ _ _ (Nat.lt_of_lt_of_le hk h.size)).trans (h.block k hk hn)⟩
theorem Kp.setCell (h : Kp L a w) {p : Addr} (hp : p.block ∈ L ∨ a.heap.size ≤ p.block) (u : Value) : Kp L a (w.setCell p u) :=
  ⟨h.os, h.tape, h.output, by have := h.size; simp [World.setCell]; omega, fun k hk hn =>
    (Below.heap_setCell _ _ _ _ fun e => by subst e; exact hp.elim hn (by omega)).trans (h.block k hk hn)⟩
theorem Kp.of_below (h : Below w.heap.size w w') : Kp L w w' := ⟨h.os, h.tape, h.output, h.size, fun k hk _ => h.block k hk⟩
theorem Kp.of_grown {row : Option Nat} (h : w.grownBy w' row) (hr : ∀ k, row = some k → k ∈ L) : Kp L w w' :=
  ⟨h.os, h.tape, h.output, h.size, fun k hk hn => h.block k hk fun e => hn (hr k e.symm)⟩
theorem Kp.below {B : Nat} (h : Kp L w w') (hB : B ≤ w.heap.size) (hL : ∀ x ∈ L, B ≤ x) : Below B w w' :=
  ⟨h.os, h.tape, h.output, h.size, fun k hk => h.block k (Nat.lt_of_lt_of_le hk hB) fun e => by have := hL k e; omega⟩
theorem Kp.onto {B : Nat} (h : Below B a w) (k : Kp L w w') (hB : B ≤ w.heap.size) (hL : ∀ x ∈ L, B ≤ x) : Below B a w' := h.trans (k.below hB hL)
theorem Blk.new_ {w : World} {t : TypeId} {cs : Array Value} {g : Nat} (h : g = w.heap.size) : Blk (w.alloc (.cells cs t)) g t cs := h ▸ Blk.new w t cs
theorem Blk.drew_ (h : Blk w g t cs) : Blk w.drew g t cs := h
theorem Blk.kp (h : Blk w g t cs) (k : Kp L w w') (hg : g ∉ L) : Blk w' g t cs := by
  show w'.heap[g]? = _
  rw [k.block g h.lt hg]; exact h
theorem Kp.cell (k : Kp L w w') {p : Addr} (hl : p.block < w.heap.size) (hp : p.block ∉ L) : w'.cell? p = w.cell? p := World.cell?_of_block (k.block _ hl hp)
theorem IRow.kp {kd : IntKind} {A : Option Addr} {n : Nat} {zs : Nat → Int} (h : IRow w kd A n zs) (k : Kp L w w') (hA : ∀ ad, A = some ad → ad.block ∉ L) : IRow w' kd A n zs := fun i hi => by
  obtain ⟨ad, e, hl, hc, hw⟩ := h i hi
  exact ⟨ad, e, Nat.lt_of_lt_of_le hl k.size, (k.cell (by rw [block_of_add]; exact hl) (by rw [block_of_add]; exact hA ad e)).trans hc, hw⟩
/-- Where a slice's bytes lie is a block of such. -/
def Typed (w : World) (A : Option Addr) (e : TypeId) : Prop := ∀ ad, A = some ad → ∃ C, Blk w ad.block e C
theorem Typed.kp {A : Option Addr} {e : TypeId} (h : Typed w A e) (k : Kp L w w') (hA : ∀ ad, A = some ad → ad.block ∉ L) : Typed w' A e := fun ad x => by
  obtain ⟨C, hC⟩ := h ad x
  exact ⟨C, hC.kp k (hA ad x)⟩
theorem Typed.off {A : Option Addr} {e : TypeId} (h : Typed w A e) (hL : ∀ x ∈ L, ∃ t cs, Blk w x t cs ∧ e ≠ t) : ∀ ad, A = some ad → ad.block ∉ L := fun ad x hx => by
  obtain ⟨C, hC⟩ := h ad x
  obtain ⟨t, cs, hb, hne⟩ := hL _ hx
  exact hC.ne_ hb hne rfl
theorem Typed.none {e : TypeId} : Typed w none e := fun _ x => by cases x
theorem Typed.from_ {A : Option Addr} {e : TypeId} (h : Typed w A e) (j c : Nat) : Typed w (if c = j then A else A.map (·.add j)) e := fun ad x => by
  split at x
  · exact h ad x
  · cases A with
    | none => cases x
    | some a => cases x; rw [block_of_add]; exact h a rfl
theorem IRow.from_ {k : IntKind} {A : Option Addr} {n j c : Nat} {z : Nat → Int} (h : IRow w k A n z) (he : j ≤ n) (hc : n ≤ c) : IRow w k (if c = j then A else A.map (·.add j)) (n - j) (fun i => z (j + i)) := fun i hi => by
  have hne : ¬ c = j := by omega
  obtain ⟨ad, e, hl, hx, hw⟩ := h (j + i) (by omega)
  subst e
  rw [if_neg hne]
  refine ⟨ad.add j, rfl, by rw [block_of_add]; exact hl, ?_, hw⟩
  have ha : (ad.add j).add i = ad.add (j + i) := by
    unfold Addr.add
    simp only [Nat.add_eq_zero_iff]
    by_cases h1 : j = 0 <;> by_cases h2 : i = 0 <;> simp_all [Nat.add_assoc]
  rw [ha]; exact hx
end
end Go.Proofs.YtleofglnlfpoeaaGreat
namespace Go.Proofs.YtleofglnlfpoeaaGreat
open Go.RowKit
set_option linter.unusedVariables false
set_option maxRecDepth 100000
/-- A bus's cells: its clock, then the rest. -/
def buK (R : Nat → Value) (now cyc : Int) (fast asked next : Bool) : Array Value := #[.int .i64 now, .int .i64 cyc, .bool fast, .bool asked, .bool next, R 5, R 6, R 7, R 8, R 9, R 10]
theorem Kp.of_gb {a w : World} {g : Nat} (h : a.grownBy w (some g)) : Kp [g] a w := ⟨h.os, h.tape, h.output, h.size, fun k hk hr => h.block k hk (fun e => hr (by injection e with e; simp [e]))⟩
section
variable {w : World} {g : Nat} {now cyc : Int} {fast asked next : Bool} {R : Nat → Value}
theorem buK_cells (h : Blk w g 126 (buK R now cyc fast asked next)) : w.cell? ⟨g, 0, none⟩ = some (.int .i64 now) ∧ w.cell? ⟨g, 1, none⟩ = some (.int .i64 cyc) ∧ w.cell? ⟨g, 2, none⟩ = some (.bool fast) ∧ w.cell? ⟨g, 3, none⟩ = some (.bool asked) ∧ w.cell? ⟨g, 4, none⟩ = some (.bool next) ∧ ∀ i, w.frozen? ⟨g, i, none⟩ = false :=
  ⟨h.cell 0, h.cell 1, h.cell 2, h.cell 3, h.cell 4, h.frozen⟩
theorem bknow_any (h : Blk w g 126 (buK R now cyc fast asked next)) : Calls Tryz.prog 69 #[.pointer (some ⟨g, 0, none⟩)] w fun e w' => e = .returned (.int .i64 now) ∧ w' = w := by
  obtain ⟨c0, c1, c2, c3, c4, hf⟩ := buK_cells h
  clear h
  go_enter Tryz.func69, Tryz.ntmps69
  go_wp2
  go_ret
  exact ⟨rfl, rfl⟩
theorem bkfast_any (h : Blk w g 126 (buK R now cyc fast asked next)) : Calls Tryz.prog 75 #[.pointer (some ⟨g, 0, none⟩)] w fun e w' => e = .returned (.bool fast) ∧ w' = w := by
  obtain ⟨c0, c1, c2, c3, c4, hf⟩ := buK_cells h
  clear h
  go_enter Tryz.func75, Tryz.ntmps75
  go_wp2
  go_ret
  exact ⟨rfl, rfl⟩
set_option maxHeartbeats 1000000 in
theorem bkask_any (x : Bool) (h : Blk w g 126 (buK R now cyc fast asked next)) :
    Calls Tryz.prog 66 #[.pointer (some ⟨g, 0, none⟩), .bool x] w fun e w' => e = .returned (.tuple #[]) ∧ (Blk w' g 126 (buK R now cyc fast true x) ∧ w.grownBy w' (some g)) := by
  obtain ⟨c0, c1, c2, c3, c4, hf⟩ := buK_cells h
  go_enter Tryz.func66, Tryz.ntmps66
  go_wp2
  go_returns
  exact ⟨rfl, (h.set_ 3 _).set_ 4 _, gb_set (gb_set (gb_refl w _) 3 _) 4 _⟩
set_option maxHeartbeats 1000000 in
theorem bkturn_no (h : Blk w g 126 (buK R now cyc fast false false)) :
    Calls Tryz.prog 67 #[.pointer (some ⟨g, 0, none⟩)] w fun e w' => e = .returned (.tuple #[]) ∧ (Blk w' g 126 (buK R now cyc fast false false) ∧ w.grownBy w' (some g)) := by
  obtain ⟨c0, c1, c2, c3, c4, hf⟩ := buK_cells h
  go_enter Tryz.func67, Tryz.ntmps67
  go_wp2
  go_returns
  exact ⟨rfl, h, gb_refl w _⟩
set_option maxHeartbeats 1000000 in
theorem bkturn_yes (h : Blk w g 126 (buK R now cyc fast true next)) :
    Calls Tryz.prog 67 #[.pointer (some ⟨g, 0, none⟩)] w fun e w' => e = .returned (.tuple #[]) ∧ (Blk w' g 126 (buK R now cyc next false false) ∧ w.grownBy w' (some g)) := by
  obtain ⟨c0, c1, c2, c3, c4, hf⟩ := buK_cells h
  go_enter Tryz.func67, Tryz.ntmps67
  go_wp2
  go_returns
  exact ⟨rfl, ((h.set_ 2 _).set_ 3 _).set_ 4 _, gb_set (gb_set (gb_set (gb_refl w _) 2 _) 3 _) 4 _⟩
end
set_option maxHeartbeats 4000000 in
theorem bkcycle_any {w : World} {g : Nat} {now cyc : Int} {fast asked next : Bool} {R : Nat → Value} (x : Bool) (h : Blk w g 126 (buK R now cyc fast asked next)) (n0 : 0 ≤ now) (n1 : now ≤ 1152921504606846976) (k0 : 0 ≤ cyc) (k1 : cyc ≤ 1152921504606846976) :
    Calls Tryz.prog 108 #[.pointer (some ⟨g, 0, none⟩), .bool x] w fun e w' => e = .returned (.int .i64 now) ∧ (Blk w' g 126 (buK R (now + lenI fast x) (cyc + (1 + oneI x)) fast asked next) ∧ w.grownBy w' (some g)) := by
  obtain ⟨c0, c1, c2, c3, c4, hf⟩ := buK_cells h
  have lb := lenI_bd fast x
  have ob := oneI_bd x
  have e1 : IntKind.i64.wrap (now + lenI fast x) = now + lenI fast x := IntWalk.i64_in _ (by omega)
  have e2 : IntKind.i64.wrap (1 + oneI x) = 1 + oneI x := IntWalk.i64_in _ (by omega)
  have e3 : IntKind.i64.wrap (cyc + (1 + oneI x)) = cyc + (1 + oneI x) := IntWalk.i64_in _ (by omega)
  clear lb ob n0 n1 k0 k1
  go_enter Tryz.func108, Tryz.ntmps108
  go_wp2_with fail
  go_region_with (go_at_call 151; refine (length_any _ _ _).mono ?_; rintro e w1 ⟨rfl, hb1⟩; have h1 : Blk w1 g 126 (buK R now cyc fast asked next) := Blk.later h hb1 rfl; obtain ⟨d0, d1, d2, d3, d4, hf1⟩ := buK_cells h1; have hz1 := hb1.size)
  all_goals
    go_wp2_with fail
    go_region_with (go_at_call 152; refine (one_any _ _).mono ?_; rintro e w2 ⟨rfl, rfl⟩)
  all_goals
    go_wp2_with fail
    go_ret
    refine ⟨rfl, (h1.set_ 0 _).set_ 1 _, gb_drew (gb_set (gb_set (gb_below (gb_drew (gb_refl w _)) hb1) 0 _) 1 _)⟩
end Go.Proofs.YtleofglnlfpoeaaGreat
