/-
  Moves: Apply.
-/
import Derived.Test.YtndhkdcdhpfajaaDoorMov3
import Derived.Test.YtndhkdcdhpfajaaDoorCart7
import Derived.Test.YtndhkdcdhpfajaaDoorG29
import Derived.Sort.QuietIn
namespace Go.Proofs.YtndhkdcdhpfajaaDoor
open Go.RowKit Go.Shelf
set_option linter.unusedVariables false
set_option linter.unusedSimpArgs false
set_option maxRecDepth 100000
attribute [local go_sem] Oper.semAt_some
/-- Bytes moved one by one in a memory of n bytes. -/
def mvM (k : Nat) (f t : Int) (n : Nat) (z : Nat → Int) (l : List Nat) : Nat → Int := l.foldl (fun (m : Nat → Int) (x : Nat) => fun (j : Nat) => if j = (mvT k t (x : Int)).toNat % n then m ((mvF k f (x : Int)).toNat % n) else m j) z
theorem mvM_snoc (k : Nat) (f t : Int) (n : Nat) (z : Nat → Int) (l : List Nat) (x : Nat) : mvM k f t n z (l ++ [x]) = fun j => if j = (mvT k t (x : Int)).toNat % n then mvM k f t n z l ((mvF k f (x : Int)).toNat % n) else mvM k f t n z l j := by
  unfold mvM; rw [List.foldl_append]; rfl
theorem mvM_bd (k : Nat) (f t : Int) (n : Nat) (z : Nat → Int) (hn : 0 < n) (hz : ∀ j, j < n → 0 ≤ z j ∧ z j ≤ 255) : ∀ (l : List Nat) (j : Nat), j < n → 0 ≤ mvM k f t n z l j ∧ mvM k f t n z l j ≤ 255 := by
  intro l
  induction l generalizing z with
  | nil => exact hz
  | cons x l ih =>
    intro j hj
    refine ih (fun j => if j = (mvT k t (x : Int)).toNat % n then z ((mvF k f (x : Int)).toNat % n) else z j) (fun j hj => ?_) j hj
    split
    · exact hz _ (Nat.mod_lt _ hn)
    · exact hz j hj
theorem vclone {w : World} (ad : Addr) (n c : Nat) (z : Nat → Int) (hn : 0 < n) (hm : n ≤ 140737488355328) (R : IRow w .u8 (some ad) n z) :
    Calls Tryd.prog 24 #[.slice (some ad) n c] w fun e w' => ∃ g cap C, e = .returned (.slice (some ⟨g, 0, none⟩) n cap) ∧ w.heap.size ≤ g ∧ n ≤ cap ∧ cap ≤ maxLen ∧ Blk w' g 5 C ∧ (∀ j, j < n → C[j]? = some (.int .u8 (z j))) ∧ Below w.heap.size w w' := by
  obtain ⟨i, hi, hzz⟩ := Option.map_eq_some_iff.1 u8_info'
  simp only [Prod.mk.injEq] at hzz
  obtain ⟨hz, hs, hb⟩ := hzz
  have hB0 : Below w.heap.size w (w.alloc (.cells #[] 5)) := (Below.refl _ _).alloc (Nat.le_refl _) _
  have R0 := R.keep hB0
  have hown0 : (w.alloc (.cells #[] 5)).ownsRow w.heap.size 5 1 (.slice (some ⟨w.heap.size, 0, none⟩) 0 0) 0 [] :=
    ⟨rfl, Or.inr ⟨w.heap.size, 0, #[], rfl, Nat.le_refl _, heap_alloc_new w _, Nat.le_refl _, by unfold maxLen; omega, rfl, rfl⟩⟩
  obtain ⟨v', w', h1, h2, h3, _, _⟩ := run_append_own_at (P := Tryd.prog) (w.alloc (.cells #[] 5)) w.heap.size 24 24 5 i (.int .u8 0) 1 1 Tryd.underlying24 hi hz hs hb rfl (by omega) _ 0 [] hown0 ad n c (bytesOf z n) (by rw [bytesOf_len]; omega)
    (fun j u hu => by
      have hj : j < n := by have := (List.getElem?_eq_some_iff.1 hu).1; rwa [bytesOf_len] at this
      rw [bytesOf_at z n j hj] at hu
      injection hu with hu
      subst hu
      obtain ⟨ae, e, _, hc, _⟩ := R0 j hj
      injection e with e
      subst e
      exact hc)
    (bytesOf_one z n) (by unfold maxLen; omega) (by omega) hB0.size
  rw [Nat.zero_add, List.nil_append] at h2
  have hnil := fun W => Lib.run_eql_slice_nil (P := Tryd.prog) W 24 5 (some ad) n c 0 0 Tryd.underlying24
  rcases h2.2 with ⟨h, h0⟩ | ⟨g, cap, cur, rfl, hg, hh, hnc, hcm, hsz, htk⟩
  · omega
  · have hB3 : Below w.heap.size w w' := hB0.grown h3 hB0.size (fun j e => by simp [Value.ownBlock] at e; omega)
    have HR := Lib.hid R
    have H3 := Lib.hid htk
    clear R R0 h2 h3 hown0 htk
    go_enter Tryd.func24, Tryd.ntmps24
    go_wp2_with (at_builtin; refine wpList_append_run rfl (.tmp 5) (.tmp 6) 24 rfl rfl rfl h1 ?_)
    go_ret
    refine ⟨g, cap, cur, rfl, hg, hnc, hcm, hh, fun j hj => ?_, hB3⟩
    have e1 : (cur.toList.take (n * 1))[j]? = (bytesOf z n)[j]? := by rw [H3.out]
    rw [bytesOf_at z n j hj, List.getElem?_take, if_pos (by omega), Array.getElem?_toList] at e1
    exact e1
def ApplyR (k : Nat) (f t l : Int) (n : Nat) (z : Nat → Int) (w : World) (e : Ending) (w' : World) : Prop := ∃ g cap, e = .returned (.tuple #[.slice (some ⟨g, 0, none⟩) n cap, .int .i64 0]) ∧ n ≤ cap ∧ cap ≤ maxLen ∧ IRow w' .u8 (some ⟨g, 0, none⟩) n (mvM k f t n z (List.range (cntP l).toNat)) ∧ w.heap.size ≤ g ∧ Below w.heap.size w w'
set_option maxHeartbeats 8000000 in
theorem vapply_ok (k : Nat) (hk : k < 5) (f t l : Int) (f0 : 0 ≤ f) (f1 : f ≤ 65535) (t0 : 0 ≤ t) (t1 : t ≤ 65535) (l0 : 0 ≤ l) (l1 : l ≤ 65535) (ad : Addr) (n c : Nat) (z : Nat → Int) (hn : 0 < n) (hm : n ≤ 65536) (w : World) (R : IRow w .u8 (some ad) n z) :
    Calls Tryd.prog 14 #[.int .u8 (k : Int), .int .u16 f, .int .u16 t, .int .u16 l, .slice (some ad) n c] w (ApplyR k f t l n z w) := by
  unfold ApplyR
  have hbd : ∀ j, j < n → 0 ≤ z j ∧ z j ≤ 255 := fun j hj => by
    obtain ⟨a, _, _, _, hw⟩ := R j hj
    exact bounds_u8 hw
  have hcl := fun W => vclone (w := W) ad n c z hn (by omega)
  have HR := Lib.hid R
  have HBD := Lib.hid hbd
  have k0 : ¬ (5 : Int) ≤ (k : Int) := by omega
  have k1 : (k : Int) < 5 := by omega
  have n0 : ((n : Int) == 0) = false := by simp; omega
  have n1 : ¬ (65536 : Int) < (n : Int) := by omega
  clear R hbd
  refine (callsIn_wide (n := 6)).1 ?_
  refine callsIn_of_wp_marks Tryd.func14 rfl trivial ?_ rfl
  simp only [Tryd.ntmps14, List.size_toArray, List.length_cons, List.length_nil, Nat.reduceAdd, Nat.reduceSub, Array.replicate_succ, Array.replicate_zero, List.push_toArray, List.append_toArray, List.nil_append, List.cons_append]
  gi_wp2
  refine ⟨trivial, callsIn_wide.2 ?_⟩
  refine (hcl _ HR.out).mono ?_
  rintro e w1 ⟨g, cap, C, rfl, hg, hnc, hcm, hC, hCz, hB1⟩
  have hB4 : Below w.heap.size w (w1.alloc (.cells #[.slice (some ⟨g, 0, none⟩) n cap] 24)) := hB1.alloc hB1.size _
  have hC4 : Blk (w1.alloc (.cells #[.slice (some ⟨g, 0, none⟩) n cap] 24)) g 5 C := hC.alloc _
  have hO4 : Blk (w1.alloc (.cells #[.slice (some ⟨g, 0, none⟩) n cap] 24)) w1.heap.size 24 #[.slice (some ⟨g, 0, none⟩) n cap] := Blk.new w1 _ _
  have s4 : (w1.alloc (.cells #[.slice (some ⟨g, 0, none⟩) n cap] 24)).heap.size = w1.heap.size + 1 := by simp
  have hgl := hC.lt
  have s1 := hB1.size
  generalize hob : w1.heap.size = ob at *
  gi_wp2
  refine ⟨trivial, callsIn_wide.2 ?_⟩
  generalize World.alloc _ _ = w4 at *
  refine (vways_any l k f t w4).mono ?_
  rintro e w5 ⟨bl, bk, bf, bt, rfl, h4, e1, e2, e3, e4, hB5⟩
  have B5 := hB4.trans (hB5.mono hB4.size)
  have hC5 := hC4.below hB5 (by omega)
  have hO5 := hO4.below hB5 (by omega)
  have s5 := hB5.size
  clear hC hC4 hO4 hB1 hB5
  unfold wayV
  gi_wp2
  refine wpIn_rangeFunc_ownH rfl (by omega) (gf := 27) (lb := #[.pointer (some ⟨bl, 0, none⟩), .pointer (some ⟨bk, 0, none⟩), .pointer (some ⟨bf, 0, none⟩), .pointer (some ⟨bt, 0, none⟩)]) rfl trivial (enters_of Tryd.func27 (by kernel_rfl) rfl)
    (ways_stops 5 (by omega) bl bk bf bt k f t l f0 f1 t0 t1 l0 l1 w5 h4) (fun h q hb => q (h hb)) (fun W l o o' _ ho hc _ h => ⟨blk_put h.1 ho hc, blk_put h.2.1 ho hc, blk_put h.2.2.1 ho hc, blk_put h.2.2.2 ho hc⟩) (Below.refl _ _) (fun _ => rfl)
    (fun pre W1 => ((∃ C, Blk W1 g 5 C ∧ (∀ j, j < n → C[j]? = some (.int .u8 (mvM k f t n z pre j)))) ∧ Blk W1 ob 24 #[.slice (some ⟨g, 0, none⟩) n cap]) ∧ Below w.heap.size w W1)
    (fun c pre W1 => False)
    (OwnFrom.and (I := fun pre W1 => (∃ C, Blk W1 g 5 C ∧ (∀ j, j < n → C[j]? = some (.int .u8 (mvM k f t n z pre j)))) ∧ Blk W1 ob 24 #[.slice (some ⟨g, 0, none⟩) n cap]) (fun q X Y row hs hg hr => by obtain ⟨⟨C, h1, h2⟩, h3⟩ := hs; exact ⟨⟨C, mblk_own h1 hg (fun r e => (hr r e).2), h2⟩, mblk_own h3 hg (fun r e => (hr r e).2)⟩) (ownFrom_below (Nat.le_refl _) (by omega)))
    (fun _ _ _ _ _ hs _ _ => hs)
    ⟨⟨⟨C, hC5, hCz⟩, hO5⟩, B5⟩
    (fun x a' W => ∃ Bx, ob < Bx ∧ Blk W Bx 48 #[.int .u16 (mvF k f (x : Int)), .int .u16 (mvT k t (x : Int))] ∧ a' = { tmps := #[.int .u8 (k : Int), .int .u16 f, .int .u16 t, .int .u16 l, .slice (some ad) n c, undef, undef, undef, undef, undef, .slice none 0 0, .int .i64 0, .pointer (some ⟨ob, 0, none⟩), .pointer (some ⟨Bx, 0, none⟩), .bool false, .int .u8 (k : Int), .int .i64 (k : Int), .bool false, .bool false, .slice (some ad) n c, .int .i64 (n : Int), .bool false, .bool false, .slice (some ad) n c, .int .i64 (n : Int), .bool false, .bool false, .slice (some ad) n c, .slice (some ⟨g, 0, none⟩) n cap, .int .u8 (k : Int), .int .u16 f, .int .u16 t, .int .u16 l, .func (.func 27) #[] #[.pointer (some ⟨bl, 0, none⟩), .pointer (some ⟨bk, 0, none⟩), .pointer (some ⟨bf, 0, none⟩), .pointer (some ⟨bt, 0, none⟩)], .agg #[.int .u16 (mvF k f (x : Int)), .int .u16 (mvT k t (x : Int))], undef, undef, undef, undef, undef, undef, undef, undef, undef, undef, undef, undef, undef, undef, undef, undef, undef, undef], defers := [] })
    (fun x a' _ X Y row hs hg hr => by obtain ⟨Bx, h1, h2, h3⟩ := hs; exact ⟨Bx, h1, mblk_own h2 hg (fun r e => (hr r e).2), h3⟩)
    ?assign ?body ?done ?stop
  case assign =>
    rintro l pre x W K ⟨⟨⟨C1, h1, h2⟩, h3⟩, hB1⟩ hK
    have hs1 := h3.lt
    unfold wayA
    gi_wp2
    exact hK _ _ ((KeepsOthers.alloc _ _).from _) (fun h => ⟨h.1.alloc _, h.2.1.alloc _, h.2.2.1.alloc _, h.2.2.2.alloc _⟩) ⟨⟨⟨C1, h1.alloc _, h2⟩, h3.alloc _⟩, hB1.alloc hB1.size _⟩ ⟨W.heap.size, hs1, Blk.new W _ _, rfl⟩
  case body =>
    rintro l2 pre x a' W1 hl ⟨r, hr⟩ ⟨⟨⟨C1, h1, h2⟩, h3⟩, hB1⟩ ⟨Bx, hBx, bX, rfl⟩ hlt
    have co : W1.cell? ⟨ob, 0, none⟩ = some (.slice (some ⟨g, 0, none⟩) n cap) := h3.cell 0
    have d0 : W1.cell? ⟨Bx, 0, none⟩ = some (.int .u16 (mvF k f (x : Int))) := bX.cell 0
    have d1 : W1.cell? ⟨Bx, 1, none⟩ = some (.int .u16 (mvT k t (x : Int))) := bX.cell 1
    have EM := Lib.hid (mvM_snoc k f t n z pre x)
    obtain ⟨p0, p1⟩ := mvF_bd k f (x : Int)
    obtain ⟨q0, q1⟩ := mvT_bd k t (x : Int) t0 t1
    generalize mvF k f (x : Int) = p at *
    generalize mvT k t (x : Int) = q at *
    obtain ⟨p, rfl⟩ := Int.eq_ofNat_of_zero_le p0
    obtain ⟨q, rfl⟩ := Int.eq_ofNat_of_zero_le q0
    have ep : ((p : Nat) : Int).tmod (n : Int) = ((p % n : Nat) : Int) := by rw [Int.tmod_eq_emod_of_nonneg (by omega)]; rfl
    have eq : ((q : Nat) : Int).tmod (n : Int) = ((q % n : Nat) : Int) := by rw [Int.tmod_eq_emod_of_nonneg (by omega)]; rfl
    obtain ⟨i, hi⟩ : ∃ i, p % n = i := ⟨_, rfl⟩
    obtain ⟨j, hj⟩ : ∃ j, q % n = j := ⟨_, rfl⟩
    have i1 : i < n := by rw [← hi]; exact Nat.mod_lt _ hn
    have j1 : j < n := by rw [← hj]; exact Nat.mod_lt _ hn
    rw [hi] at ep
    rw [hj] at eq
    have cg : W1.cell? ⟨g, i, none⟩ = some (.int .u8 (mvM k f t n z pre i)) := by rw [h1.cell]; exact h2 i i1
    have fg := h1.frozen j
    have i2 : (i : Int) < n := by omega
    have j2 : (j : Int) < n := by omega
    have i3 : (0 : Int) ≤ i := by omega
    have j3 : (0 : Int) ≤ j := by omega
    have H1 := Lib.hid h1
    have H2 := Lib.hid h2
    have H3 := Lib.hid h3
    have HX := Lib.hid bX
    have hsz := (Array.getElem?_eq_some_iff.1 (h2 j j1)).1
    clear h1 h2 h3 bX
    have w1 : IntKind.i64.wrap ((p : Nat) : Int) = p := IntWalk.i64_in _ (by omega)
    have w2 : IntKind.i64.wrap ((q : Nat) : Int) = q := IntWalk.i64_in _ (by omega)
    have hn6 : ¬ n = 0 := by omega
    have HI := Lib.hid hi
    have HJ := Lib.hid hj
    clear hi hj hcl hCz h4 B5 hC5 hO5 p0 p1 q0 q1 n0 n1 k0 k1
    gi_wp2
    refine rr_begin (S := fun w' => w'.cell? ⟨ob, 0, none⟩ = some (.slice (some ⟨g, 0, none⟩) n cap) ∧ w'.cell? ⟨Bx, 0, none⟩ = some (.int .u16 ((p : Nat) : Int)) ∧ w'.cell? ⟨Bx, 1, none⟩ = some (.int .u16 ((q : Nat) : Int)) ∧ w'.cell? ⟨g, i, none⟩ = some (.int .u8 (mvM k f t n z pre i))) 18 #[false, false, false, false, false, false, false, false, false, false, false, false, false, false, false, false, false, false] (by kernel_rfl) (by kernel_rfl) (by kernel_rfl) ?_ (fun hHeld => ?_)
    · exact ⟨co, d0, d1, cg⟩
    refine rr_take (i := 0) (d := some 35) (l := #[true, false, false, false, false, false, false, false, false, false, false, false, false, false, false, false, false, false]) (fuel := 17) (v := ?_) (fun _ => trivial) (by kernel_rfl) rfl (by kernel_rfl) (by kernel_rfl) (by kernel_rfl) (by kernel_rfl) (by kernel_rfl) (fun _ _ _ h => h) (by kernel_rfl) ?_ (by assumption) ?_
    rotate_left 1
    · (intro wS hSw; (try dsimp only at hSw); go_simp; try with_reducible rfl)
    try simp only [Act.put, List.setIfInBounds_toArray, List.set_cons_zero, List.set_cons_succ]
    refine rr_take (i := 1) (d := some 36) (l := #[true, true, false, false, false, false, false, false, false, false, false, false, false, false, false, false, false, false]) (fuel := 16) (v := ?_) (fun _ => trivial) (by kernel_rfl) rfl (by kernel_rfl) (by kernel_rfl) (by kernel_rfl) (by kernel_rfl) (by kernel_rfl) (fun _ _ _ h => h) (by kernel_rfl) ?_ (by assumption) ?_
    rotate_left 1
    · (intro wS hSw; (try dsimp only at hSw); go_simp; try with_reducible rfl)
    try simp only [Act.put, List.setIfInBounds_toArray, List.set_cons_zero, List.set_cons_succ]
    refine rr_take (i := 2) (d := some 37) (l := #[true, true, true, false, false, false, false, false, false, false, false, false, false, false, false, false, false, false]) (fuel := 15) (v := ?_) (fun _ => trivial) (by kernel_rfl) rfl (by kernel_rfl) (by kernel_rfl) (by kernel_rfl) (by kernel_rfl) (by kernel_rfl) (fun _ _ _ h => h) (by kernel_rfl) ?_ (by assumption) ?_
    rotate_left 1
    · (intro wS hSw; (try dsimp only at hSw); go_simp; try with_reducible rfl)
    try simp only [Act.put, List.setIfInBounds_toArray, List.set_cons_zero, List.set_cons_succ]
    refine rr_take (i := 3) (d := some 38) (l := #[true, true, true, true, false, false, false, false, false, false, false, false, false, false, false, false, false, false]) (fuel := 14) (v := ?_) (fun _ => trivial) (by kernel_rfl) rfl (by kernel_rfl) (by kernel_rfl) (by kernel_rfl) (by kernel_rfl) (by kernel_rfl) (fun _ _ _ h => h) (by kernel_rfl) ?_ (by assumption) ?_
    rotate_left 1
    · (intro wS hSw; (try dsimp only at hSw); go_simp; try with_reducible rfl)
    try simp only [Act.put, List.setIfInBounds_toArray, List.set_cons_zero, List.set_cons_succ]
    refine rr_take (i := 4) (d := some 39) (l := #[true, true, true, true, true, false, false, false, false, false, false, false, false, false, false, false, false, false]) (fuel := 13) (v := ?_) (fun _ => trivial) (by kernel_rfl) rfl (by kernel_rfl) (by kernel_rfl) (by kernel_rfl) (by kernel_rfl) (by kernel_rfl) (fun _ _ _ h => h) (by kernel_rfl) ?_ (by assumption) ?_
    rotate_left 1
    · (intro wS hSw; (try dsimp only at hSw); go_simp; try with_reducible rfl)
    try simp only [Act.put, List.setIfInBounds_toArray, List.set_cons_zero, List.set_cons_succ]
    refine rr_take (i := 5) (d := some 40) (l := #[true, true, true, true, true, true, false, false, false, false, false, false, false, false, false, false, false, false]) (fuel := 12) (v := ?_) (fun _ => trivial) (by kernel_rfl) rfl (by kernel_rfl) (by kernel_rfl) (by kernel_rfl) (by kernel_rfl) (by kernel_rfl) (fun _ _ _ h => h) (by kernel_rfl) ?_ (by assumption) ?_
    rotate_left 1
    · (intro wS hSw; (try dsimp only at hSw); go_simp; try with_reducible rfl)
    try simp only [Act.put, List.setIfInBounds_toArray, List.set_cons_zero, List.set_cons_succ]
    refine rr_take (i := 6) (d := some 41) (l := #[true, true, true, true, true, true, true, false, false, false, false, false, false, false, false, false, false, false]) (fuel := 11) (v := ?_) (fun _ => trivial) (by kernel_rfl) rfl (by kernel_rfl) (by kernel_rfl) (by kernel_rfl) (by kernel_rfl) (by kernel_rfl) (fun _ _ _ h => h) (by kernel_rfl) ?_ (by assumption) ?_
    rotate_left 1
    · (intro wS hSw; (try dsimp only at hSw); go_simp; try with_reducible rfl)
    try simp only [Act.put, List.setIfInBounds_toArray, List.set_cons_zero, List.set_cons_succ]
    refine rr_take (i := 7) (d := some 42) (l := #[true, true, true, true, true, true, true, true, false, false, false, false, false, false, false, false, false, false]) (fuel := 10) (v := ?_) (fun _ => trivial) (by kernel_rfl) rfl (by kernel_rfl) (by kernel_rfl) (by kernel_rfl) (by kernel_rfl) (by kernel_rfl) (fun _ _ _ h => h) (by kernel_rfl) ?_ (by assumption) ?_
    rotate_left 1
    · (intro wS hSw; (try dsimp only at hSw); go_simp; try with_reducible rfl)
    try simp only [Act.put, List.setIfInBounds_toArray, List.set_cons_zero, List.set_cons_succ]
    refine rr_take (i := 8) (d := some 43) (l := #[true, true, true, true, true, true, true, true, true, false, false, false, false, false, false, false, false, false]) (fuel := 9) (v := ?_) (fun _ => trivial) (by kernel_rfl) rfl (by kernel_rfl) (by kernel_rfl) (by kernel_rfl) (by kernel_rfl) (by kernel_rfl) (fun _ _ _ h => h) (by kernel_rfl) ?_ (by assumption) ?_
    rotate_left 1
    · (intro wS hSw; (try dsimp only at hSw); go_simp; try with_reducible rfl)
    try simp only [Act.put, List.setIfInBounds_toArray, List.set_cons_zero, List.set_cons_succ]
    refine rr_take (i := 9) (d := some 44) (l := #[true, true, true, true, true, true, true, true, true, true, false, false, false, false, false, false, false, false]) (fuel := 8) (v := ?_) (fun _ => trivial) (by kernel_rfl) rfl (by kernel_rfl) (by kernel_rfl) (by kernel_rfl) (by kernel_rfl) (by kernel_rfl) (fun _ _ _ h => h) (by kernel_rfl) ?_ (by assumption) ?_
    rotate_left 1
    · (intro wS hSw; (try dsimp only at hSw); go_simp; try with_reducible rfl)
    try simp only [Act.put, List.setIfInBounds_toArray, List.set_cons_zero, List.set_cons_succ]
    refine rr_take (i := 10) (d := some 45) (l := #[true, true, true, true, true, true, true, true, true, true, true, false, false, false, false, false, false, false]) (fuel := 7) (v := ?_) (fun _ => trivial) (by kernel_rfl) rfl (by kernel_rfl) (by kernel_rfl) (by kernel_rfl) (by kernel_rfl) (by kernel_rfl) (fun _ _ _ h => h) (by kernel_rfl) ?_ (by assumption) ?_
    rotate_left 1
    · (intro wS hSw; (try dsimp only at hSw); go_simp; try with_reducible rfl)
    try simp only [Act.put, List.setIfInBounds_toArray, List.set_cons_zero, List.set_cons_succ]
    refine rr_take (i := 11) (d := some 46) (l := #[true, true, true, true, true, true, true, true, true, true, true, true, false, false, false, false, false, false]) (fuel := 6) (v := ?_) (fun _ => trivial) (by kernel_rfl) rfl (by kernel_rfl) (by kernel_rfl) (by kernel_rfl) (by kernel_rfl) (by kernel_rfl) (fun _ _ _ h => h) (by kernel_rfl) ?_ (by assumption) ?_
    rotate_left 1
    · (intro wS hSw; (try dsimp only at hSw); go_simp; try with_reducible rfl)
    try simp only [Act.put, List.setIfInBounds_toArray, List.set_cons_zero, List.set_cons_succ]
    refine rr_take (i := 12) (d := some 47) (l := #[true, true, true, true, true, true, true, true, true, true, true, true, true, false, false, false, false, false]) (fuel := 5) (v := ?_) (fun _ => trivial) (by kernel_rfl) rfl (by kernel_rfl) (by kernel_rfl) (by kernel_rfl) (by kernel_rfl) (by kernel_rfl) (fun _ _ _ h => h) (by kernel_rfl) ?_ (by assumption) ?_
    rotate_left 1
    · (intro wS hSw; (try dsimp only at hSw); go_simp; try with_reducible rfl)
    try simp only [Act.put, List.setIfInBounds_toArray, List.set_cons_zero, List.set_cons_succ]
    refine rr_take (i := 13) (d := some 48) (l := #[true, true, true, true, true, true, true, true, true, true, true, true, true, true, false, false, false, false]) (fuel := 4) (v := ?_) (fun _ => trivial) (by kernel_rfl) rfl (by kernel_rfl) (by kernel_rfl) (by kernel_rfl) (by kernel_rfl) (by kernel_rfl) (fun _ _ _ h => h) (by kernel_rfl) ?_ (by assumption) ?_
    rotate_left 1
    · (intro wS hSw; (try dsimp only at hSw); go_simp; try with_reducible rfl)
    try simp only [Act.put, List.setIfInBounds_toArray, List.set_cons_zero, List.set_cons_succ]
    refine rr_take (i := 14) (d := some 49) (l := #[true, true, true, true, true, true, true, true, true, true, true, true, true, true, true, false, false, false]) (fuel := 3) (v := ?_) (fun _ => trivial) (by kernel_rfl) rfl (by kernel_rfl) (by kernel_rfl) (by kernel_rfl) (by kernel_rfl) (by kernel_rfl) (fun _ _ _ h => h) (by kernel_rfl) ?_ (by assumption) ?_
    rotate_left 1
    · (intro wS hSw; (try dsimp only at hSw); go_simp; try with_reducible rfl)
    try simp only [Act.put, List.setIfInBounds_toArray, List.set_cons_zero, List.set_cons_succ]
    refine rr_take (i := 15) (d := some 50) (l := #[true, true, true, true, true, true, true, true, true, true, true, true, true, true, true, true, false, false]) (fuel := 2) (v := ?_) (fun _ => trivial) (by kernel_rfl) rfl (by kernel_rfl) (by kernel_rfl) (by kernel_rfl) (by kernel_rfl) (by kernel_rfl) (fun _ _ _ h => h) (by kernel_rfl) ?_ (by assumption) ?_
    rotate_left 1
    · (intro wS hSw; (try dsimp only at hSw); go_simp; try with_reducible rfl)
    try simp only [Act.put, List.setIfInBounds_toArray, List.set_cons_zero, List.set_cons_succ]
    refine rr_take (i := 16) (d := some 51) (l := #[true, true, true, true, true, true, true, true, true, true, true, true, true, true, true, true, true, false]) (fuel := 1) (v := ?_) (fun _ => trivial) (by kernel_rfl) rfl (by kernel_rfl) (by kernel_rfl) (by kernel_rfl) (by kernel_rfl) (by kernel_rfl) (fun _ _ _ h => h) (by kernel_rfl) ?_ (by assumption) ?_
    rotate_left 1
    · (intro wS hSw; (try dsimp only at hSw); go_simp; try with_reducible rfl)
    try simp only [Act.put, List.setIfInBounds_toArray, List.set_cons_zero, List.set_cons_succ]
    have B1 : Blk (W1.setCell ⟨g, j, none⟩ (.int .u8 (mvM k f t n z pre i))) g 5 (C1.setIfInBounds j (.int .u8 (mvM k f t n z pre i))) := Blk.set_ H1.out j _
    have B3 : Blk (W1.setCell ⟨g, j, none⟩ (.int .u8 (mvM k f t n z pre i))) ob 24 #[.slice (some ⟨g, 0, none⟩) n cap] := Blk.far (p := ⟨g, j, none⟩) H3.out (by simp; omega) _
    have BX : Blk (W1.setCell ⟨g, j, none⟩ (.int .u8 (mvM k f t n z pre i))) Bx 48 #[.int .u16 ((p : Nat) : Int), .int .u16 ((q : Nat) : Int)] := Blk.far (p := ⟨g, j, none⟩) HX.out (by simp; omega) _
    have BI : (W1.setCell ⟨g, j, none⟩ (.int .u8 (mvM k f t n z pre i))).cell? ⟨g, i, none⟩ = some (.int .u8 (mvM k f t n z pre i)) := by rw [B1.cell i, Array.getElem?_setIfInBounds]; split; (first | rfl | (rw [if_pos (by omega)])); exact H2.out i i1
    have cj : W1.drew.cell? ⟨g, j, none⟩ = some (.int .u8 (mvM k f t n z pre j)) := (H1.out.cell j).trans (H2.out j j1)
    have fj : W1.drew.frozen? ⟨g, j, none⟩ = false := H1.out.frozen j
    refine rr_last (i := 17) (l := #[true, true, true, true, true, true, true, true, true, true, true, true, true, true, true, true, true, true]) (fuel := 0) (by kernel_rfl) rfl (by kernel_rfl) (by kernel_rfl) (fun K hK => ?_)
    unfold Oper.wpIn
    refine ⟨fun _ _ => trivial, ?_⟩
    go_simp
    refine hK.out _ _ ?_ (fun hHeld => ?_)
    · (try dsimp only); exact ⟨B3.cell 0, BX.cell 0, BX.cell 1, BI⟩
    clear hK K
    try simp only [Act.put, List.setIfInBounds_toArray, List.set_cons_zero, List.set_cons_succ]
    refine rr_done (by kernel_rfl) ?_ _
    have far : ∀ {b : Nat} {ty : TypeId} {cs : Array Value}, Blk W1 b ty cs → b ≠ g → Blk (W1.setCell ⟨g, j, none⟩ (.int .u8 (mvM k f t n z pre i))) b ty cs := fun {b ty cs} h hb => Blk.far (p := ⟨g, j, none⟩) h (by simpa using hb) _
    have KO := (KeepsOthers.setCell W1 ⟨g, j, none⟩ (.int .u8 (mvM k f t n z pre i))).from w5.heap.size
    refine ⟨⟨KO.size, KO.same⟩, fun h => ⟨far h.1 (by omega), far h.2.1 (by omega), far h.2.2.1 (by omega), far h.2.2.2 (by omega)⟩, ⟨⟨_, B1, fun jj hjj => ?_⟩, B3⟩, (hB1.setCell (p := ⟨g, j, none⟩) hg _).drew⟩
    rw [EM.out, Array.getElem?_setIfInBounds]
    simp only [Int.toNat_natCast, HI.out, HJ.out]
    by_cases e : jj = j
    · rw [if_pos e.symm, if_pos e, if_pos (by omega)]
    · rw [if_neg (fun x => e x.symm), if_neg e]; exact H2.out jj hjj
  case done =>
    rintro D xs W1 hD rfl ⟨⟨⟨C1, h1, h2⟩, h3⟩, hB1⟩ hK
    have co : W1.cell? ⟨ob, 0, none⟩ = some (.slice (some ⟨g, 0, none⟩) n cap) := h3.cell 0
    have H1 := Lib.hid h1
    have H2 := Lib.hid h2
    clear h1 h2
    have HO := Lib.hid h3
    have HD := Lib.hid hK
    clear h3
    gi_wp2
    refine ⟨by simp, .inl ⟨_, _, rfl, run_takeDeferred hK, ?_⟩⟩
    refine ⟨_, results_tmp2 rfl _ _ _, ⟨g, cap, rfl, hnc, hcm, fun j hj => ?_, hg, hB1.trans (belowK_b (w := w) (Nat.le_refl _) _ D _ _ (by omega) hK rfl rfl)⟩⟩
    have e := H2.out j hj
    rw [show wayL k (cntP l).toNat = List.range (cntP l).toNat from if_pos hk] at e
    refine ⟨⟨g, 0, none⟩, rfl, (blk_put H1.out hK rfl).lt, ?_, ?_⟩
    · rw [add_zero_block]; exact ((blk_put H1.out hK rfl).cell j).trans e
    · have := mvM_bd k f t n z hn HBD.out (List.range (cntP l).toNat) j hj
      simp [Lit.wf, IntKind.min, IntKind.max, IntKind.signed, IntKind.bits]; omega
  case stop =>
    rintro D c pre W1 hD hpre h hK
    exact h.elim
end Go.Proofs.YtndhkdcdhpfajaaDoor
