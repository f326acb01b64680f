/-
  A channel of sound: Wave, New, Clone; and nil.
-/
import Derived.Test.YtcnjekballnncaaWav3
import Derived.Test.YtcnjekballnncaaG18
import Derived.Deep.MidRow
import Derived.Laws.CopyOwn
namespace Go.Proofs.Ytcnjekballnncaa
open Go.RowKit
set_option linter.unusedVariables false
set_option linter.unusedSimpArgs false
set_option maxRecDepth 100000
theorem infoW : (Try.prog.info? 57).map (fun i => (i.zero, i.size)) = some (some (.agg (iArr .u8 32 fun _ => 0)), 32) := by kernel_rfl
theorem zeroW (w : World) : (zeroValue 57).run Try.prog w = .ok (.agg (iArr .u8 32 fun _ => 0)) w := (zero_of_info infoW).1 w
theorem sizeW : (Try.prog.info? 57).map (·.size) = some 32 := (zero_of_info infoW).2
def Cw.zero : Cw := ⟨⟨0, 0, 0⟩, fun _ => 0, 0, 0, 0, 0, 0, 0, 0, false⟩
theorem infoC : (Try.prog.info? 81).map (fun i => (i.zero, i.size)) = some (some (.agg (chC Cw.zero)), 43) := by kernel_rfl
theorem zeroC (w : World) : (zeroValue 81).run Try.prog w = .ok (.agg (chC Cw.zero)) w := (zero_of_info infoC).1 w
theorem sizeC : (Try.prog.info? 81).map (·.size) = some 43 := (zero_of_info infoC).2
theorem CW.range {w : World} {g : Nat} {x : Cw} (h : CW w g x) : w.rangeAt g 3 (intsOf .u8 x.wv 32) := fun j v hv => by
  have hj : j < 32 := by
    by_cases hj : j < 32
    · exact hj
    · rw [List.getElem?_eq_none (by rw [intsOf_len]; omega)] at hv; cases hv
  rw [intsOf_at .u8 x.wv 32 j hj] at hv
  cases hv
  exact h.wave j hj
section
variable {w : World} {g : Nat} {x : Cw}
set_option maxHeartbeats 2000000 in
theorem cwave_any (h : CW w g x) : Calls Try.prog 45 #[.pointer (some ⟨g, 0, none⟩)] w fun e w' => e = .returned (.agg (iArr .u8 32 x.wv)) ∧ Below w.heap.size w w' := by
  have hz0 := zeroW
  have hB : Below w.heap.size w (w.alloc (.cells (iArr .u8 32 fun _ => 0) 57)) := (Below.refl _ _).alloc (Nat.le_refl _) _
  have h1 : CW (w.alloc (.cells (iArr .u8 32 fun _ => 0) 57)) g x := h.keep hB h.lt
  have hn := Blk.new w 57 (iArr .u8 32 fun _ => 0)
  have hst := hn.run_store (P := Try.prog) (iArr .u8 32 x.wv) (by rw [iArr_size, iArr_size]) (iArr_one _ _ _)
  replace hst : (storeCells ⟨w.heap.size, 0, none⟩ (intsOf .u8 x.wv 32)).run Try.prog (w.alloc (.cells (iArr .u8 32 fun _ => 0) 57)) = .ok () ((w.alloc (.cells (iArr .u8 32 fun _ => 0) 57)).setRow w.heap.size (iArr .u8 32 x.wv)) := hst
  have hsz := intsOf_len .u8 x.wv 32
  have h8 : (Try.prog.info? 57).map (·.size) = some (iArr .u8 32 x.wv).size := by rw [iArr_size]; exact sizeW
  have h9 : (Try.prog.info? 57).map (·.size) = some (intsOf .u8 x.wv 32).length := by rw [intsOf_len]; exact sizeW
  have H9 := Lib.hid h9
  have hld := (hn.row (iArr .u8 32 x.wv)).run_load (P := Try.prog) Try.underlying57 rfl h8
  have HD := Lib.hid hld
  have HR := Lib.hid h1.range
  have hB2 := below_setRow hB (Nat.le_refl w.heap.size) (iArr .u8 32 x.wv)
  have HB2 := Lib.hid hB2
  clear h h1 hn h8 h9 hld hB hB2
  go_enter Try.func45, Try.ntmps45
  go_wp2_with (refine wpList_load_mid rfl 57 (.tmp 8) rfl g 3 (by rfl) (intsOf .u8 x.wv 32) _ HR.out Try.underlying57 rfl H9.out ?_)
  refine bodyPost_ret (v := .agg (iArr .u8 32 x.wv)) (results_cell (a := ⟨w.heap.size, 0, none⟩) Try.results45 (by rfl) HD.out) rfl ?_
  exact ⟨rfl, HB2.out⟩
def CNewR (x : Cw) (w : World) (e : Ending) (w' : World) : Prop := ∃ g, e = .returned (.pointer (some ⟨g, 0, none⟩)) ∧ w.heap.size ≤ g ∧ CW w' g x ∧ Below w.heap.size w w'
def newA : List (Nat × Value) := [(0, .agg #[.int .u32 1, .int .i64 1984, .int .u8 0]), (5, .int .i64 4096)]
theorem new_built : Try.prog.built 81 newA = some (chC Cw.new) := by kernel_rfl
set_option maxHeartbeats 2000000 in
theorem cnew_any (w : World) : Calls Try.prog 29 #[] w (CNewR Cw.new w) := by
  go_enter Try.func29, Try.ntmps29
  go_wp2_with fail
  refine (nnew_any 0 _ (by decide) (by decide)).mono ?_
  rintro e w1 ⟨rfl, h1, b1⟩
  obtain ⟨c0, c1, c2⟩ := h1.cells
  try dsimp only [Nz.new, Nat.zero_add] at c0 c1 c2
  rw [show perN 0 = 1984 from rfl] at c1
  have hl := b1.size
  have B1 := Lib.hid b1
  clear h1 b1
  go_wp2_with (refine wpList_build rfl 81 _ rfl newA (by rfl) (chC Cw.new) new_built ?_)
  go_ret
  exact ⟨w1.heap.size, rfl, hl, ⟨Blk.new w1 _ _, Cw.new_ok⟩, B1.out.alloc hl _⟩
theorem storeC (x : Cw) (W : World) : (storeCells ⟨W.heap.size, 0, none⟩ (chC x).toList).run Try.prog (W.alloc (.cells (chC Cw.zero) 81)) = .ok () (W.alloc (.cells (chC x) 81)) :=
  run_storeCells_new (P := Try.prog) W 81 (chC Cw.zero) (chC x) (by rw [chC_size]; exact sizeC) (by rw [chC_size, chC_size]) (by rw [Array.all_eq_true]; intro i hi; exact chC_one x _ (by simp))
set_option maxHeartbeats 2000000 in
theorem cclone_any (h : CW w g x) : Calls Try.prog 32 #[.pointer (some ⟨g, 0, none⟩)] w (CNewR x w) := by
  have hz0 := zeroC
  have hst := storeC x
  have hsz := chC_size x
  have h8 : (Try.prog.info? 81).map (·.size) = some (chC x).size := by rw [chC_size]; exact sizeC
  have H8 := Lib.hid h8
  have hb := h.1
  have hB : Below w.heap.size w (w.alloc (.cells (chC x) 81)) := (Below.refl _ _).alloc (Nat.le_refl _) _
  have H1 := Lib.hid (h.keep hB h.lt)
  have N1 : Hid (CW (w.alloc (.cells (chC x) 81)) w.heap.size x) := Lib.hid ⟨Blk.new w _ _, h.2⟩
  have HB := Lib.hid hB
  clear h h8 hB
  go_enter Try.func32, Try.ntmps32
  go_wp2_with (refine wpList_load_row rfl 81 (.tmp 7) rfl g (by rfl) 81 (chC x) (0, 0) _ hb Try.underlying81 rfl H8.out ?_)
  generalize w.alloc _ = w1 at *
  generalize hq : w.heap.size = q at *
  have HQ := Lib.hid hq
  clear hz0 hst hsz hb hq
  refine (nclone_any H1.out.noise.1).mono ?_
  rintro e w2 ⟨rfl, h2, b2⟩
  obtain ⟨c0, c1, c2⟩ := h2.cells
  try dsimp only [Nat.zero_add] at c0 c1 c2
  have n2 := N1.out.keep b2 N1.out.lt
  have HB2 := Lib.hid (HB.out.trans (b2.mono (HB.out.size |> fun s => by have := HQ.out; omega)))
  have d0 : w2.cell? ⟨q, 0, none⟩ = some (.int .u32 x.nz.st) := n2.cell 0 (by decide)
  have d1 : w2.cell? ⟨q, 1, none⟩ = some (.int .i64 x.nz.left) := n2.cell 1 (by decide)
  have d2 : w2.cell? ⟨q, 2, none⟩ = some (.int .u8 x.nz.fr) := n2.cell 2 (by decide)
  have f0 := n2.1.frozen 0
  have f1 := n2.1.frozen 1
  have f2 := n2.1.frozen 2
  obtain ⟨p1, k1⟩ := n2.put (y := x) 0 (.int .u32 x.nz.st) (fun j hj => by by_cases e : j = 0; (subst e; rfl); rw [if_neg e]) n2.2
  obtain ⟨p2, k2⟩ := p1.put (y := x) 1 (.int .i64 x.nz.left) (fun j hj => by by_cases e : j = 1; (subst e; rfl); rw [if_neg e]) n2.2
  obtain ⟨p3, k3⟩ := p2.put (y := x) 2 (.int .u8 x.nz.fr) (fun j hj => by by_cases e : j = 2; (subst e; rfl); rw [if_neg e]) n2.2
  have P3 := Lib.hid p3
  have K3 := Lib.hid ((k1.trans k2 (by simp)).trans k3 (by simp))
  have hq2 : q ≤ w2.heap.size := Nat.le_of_lt n2.lt
  clear n2 h2 b2 p1 p2 p3 k1 k2 k3
  go_wp2_with fail
  go_ret
  exact ⟨q, rfl, by rw [HQ.out]; exact Nat.le_refl _, P3.out, by rw [HQ.out]; exact K3.out.onto HB2.out hq2 (by simp)⟩
end
section
variable (w : World)
theorem con_nil : Calls Try.prog 44 #[.pointer none] w fun e w' => e = .returned (.bool false) ∧ w = w' := by
  go_enter Try.func44, Try.ntmps44
  go_wp2
  go_ret
  exact ⟨rfl, rfl⟩
theorem clevel_nil : Calls Try.prog 38 #[.pointer none] w fun e w' => e = .returned (.int .u8 0) ∧ w = w' := by
  go_enter Try.func38, Try.ntmps38
  go_wp2_with (go_at_call 44; refine (con_nil _).mono ?_; rintro e w' ⟨rfl, rfl⟩)
  go_ret
  exact ⟨rfl, rfl⟩
theorem cvol_nil : Calls Try.prog 46 #[.pointer none] w fun e w' => e = .returned (.int .u8 0) ∧ w = w' := by
  go_enter Try.func46, Try.ntmps46
  go_wp2
  go_ret
  exact ⟨rfl, rfl⟩
theorem cbal_nil : Calls Try.prog 55 #[.pointer none] w fun e w' => e = .returned (.tuple #[.int .u8 0, .int .u8 0]) ∧ w = w' := by
  go_enter Try.func55, Try.ntmps55
  go_wp2
  go_ret2
  exact ⟨rfl, rfl⟩
theorem cplace_nil : Calls Try.prog 36 #[.pointer none] w fun e w' => e = .returned (.int .i64 0) ∧ w = w' := by
  go_enter Try.func36, Try.ntmps36
  go_wp2
  go_ret
  exact ⟨rfl, rfl⟩
theorem cuntil_nil : Calls Try.prog 37 #[.pointer none] w fun e w' => e = .returned (.int .i64 0) ∧ w = w' := by
  go_enter Try.func37, Try.ntmps37
  go_wp2
  go_ret
  exact ⟨rfl, rfl⟩
theorem cper_nil : Calls Try.prog 40 #[.pointer none] w fun e w' => e = .returned (.int .i64 0) ∧ w = w' := by
  go_enter Try.func40, Try.ntmps40
  go_wp2
  go_ret
  exact ⟨rfl, rfl⟩
theorem cclone_nil : Calls Try.prog 32 #[.pointer none] w fun e w' => e = .returned (.pointer none) ∧ w = w' := by
  go_enter Try.func32, Try.ntmps32
  go_wp2
  go_ret
  exact ⟨rfl, rfl⟩
theorem cbend_nil (d : Int) : Calls Try.prog 54 #[.pointer none, .int .i64 d] w fun e w' => e = .returned (.tuple #[]) ∧ w = w' := by
  go_enter Try.func54, Try.ntmps54
  go_wp2
  first | go_end0 | refine bodyPost_ret (results_none rfl _ _ _) rfl ?_
  exact ⟨rfl, rfl⟩
theorem cwrite_nil (r b : Int) : Calls Try.prog 39 #[.pointer none, .int .i64 r, .int .u8 b] w fun e w' => e = .returned (.tuple #[]) ∧ w = w' := by
  go_enter Try.func39, Try.ntmps39
  go_wp2
  first | go_end0 | refine bodyPost_ret (results_none rfl _ _ _) rfl ?_
  exact ⟨rfl, rfl⟩
theorem cgo_nil (n : Int) : Calls Try.prog 35 #[.pointer none, .int .i64 n] w fun e w' => e = .returned (.tuple #[]) ∧ w = w' := by
  go_enter Try.func35, Try.ntmps35
  go_wp2
  first | go_end0 | refine bodyPost_ret (results_none rfl _ _ _) rfl ?_
  exact ⟨rfl, rfl⟩
set_option maxHeartbeats 1000000 in
theorem cwave_nil : Calls Try.prog 45 #[.pointer none] w fun e w' => e = .returned (.agg (iArr .u8 32 fun _ => 0)) ∧ Below w.heap.size w w' := by
  have hz0 := zeroW
  have hn := Blk.new w 57 (iArr .u8 32 fun _ => 0)
  have hst := hn.run_store (P := Try.prog) (iArr .u8 32 fun _ => 0) (by rw [iArr_size]) (iArr_one _ _ _)
  have hsz := iArr_size .u8 32 fun _ => 0
  have h8 : (Try.prog.info? 57).map (·.size) = some (iArr .u8 32 fun _ => 0).size := by rw [iArr_size]; exact sizeW
  have hld := (hn.row (iArr .u8 32 fun _ => 0)).run_load (P := Try.prog) Try.underlying57 rfl h8
  have HD := Lib.hid hld
  have HB2 := Lib.hid (below_setRow ((Below.refl w.heap.size w).alloc (Nat.le_refl _) (.cells (iArr .u8 32 fun _ => 0) 57)) (Nat.le_refl w.heap.size) (iArr .u8 32 fun _ => 0))
  clear hn h8 hld
  go_enter Try.func45, Try.ntmps45
  go_wp2_with (refine wpList_build rfl 57 _ rfl [] (by rfl) (iArr .u8 32 fun _ => 0) (by kernel_rfl) ?_)
  refine bodyPost_ret (v := .agg (iArr .u8 32 fun _ => 0)) (results_cell (a := ⟨w.heap.size, 0, none⟩) Try.results45 (by rfl) HD.out) rfl ?_
  exact ⟨rfl, HB2.out⟩
end
end Go.Proofs.Ytcnjekballnncaa
