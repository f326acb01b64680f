/-
  Opcode: Find.
-/
import Derived.Test.YtleofglnlfpoeaaDoorOpc5
import Derived.Test.YtleofglnlfpoeaaDoorMmu1
namespace Go.Proofs.YtleofglnlfpoeaaDoor
open Go.RowKit Go.Shelf
set_option linter.unusedVariables false
set_option linter.unusedSimpArgs false
set_option maxRecDepth 100000
attribute [local go_sem] Oper.semAt_some
/-- Has a byte this name, and this mode? -/
def fitB (s : List UInt8) (m : Int) (b : Nat) : Bool := (opN b == s) && ((opM b : Int) == m)
def findF (s : List UInt8) (m : Int) (l : List (Fin 256)) : Option (Fin 256) := l.find? fun x => fitB s m x.val
def fndV (o : Option (Fin 256)) : Value := match o with | some x => .tuple #[.int .u8 (x.val : Int), .bool true] | none => .tuple #[.int .u8 0, .bool false]
theorem findF_pre {s : List UInt8} {m : Int} {q r : List (Fin 256)} {x : Fin 256} (h : ∀ y ∈ q, fitB s m y.val = false) (hx : fitB s m x.val = true) : findF s m (q ++ [x] ++ r) = some x := by
  unfold findF
  rw [List.append_assoc, List.find?_append, List.find?_eq_none.2 (fun y hy => by rw [h y hy]; decide)]
  simp [hx]
theorem findF_none {s : List UInt8} {m : Int} {q : List (Fin 256)} (h : ∀ y ∈ q, fitB s m y.val = false) : findF s m q = none := by
  unfold findF
  exact List.find?_eq_none.2 (fun y hy => by rw [h y hy]; decide)
theorem knownit_any (w : World) : Calls Tryd.prog 48 #[] w fun e w' => e = .returned (.func (.func 85) #[] #[]) ∧ w = w' := by
  go_enter Tryd.func48, Tryd.ntmps48
  go_wp2
  go_ret
  exact ⟨rfl, rfl⟩
theorem hidB {w4 W1 : World} {g : Nat} {t : TypeId} {cs : Array Value} (h : Blk w4 g t cs) (hb : Below w4.heap.size w4 W1) : Blk W1 g t cs := h.below hb h.lt
set_option maxHeartbeats 8000000 in
theorem ofind_any (s : ByteArray) (m : Int) (w : World) :
    Calls Tryd.prog 16 #[.string s, .int .u8 m] w fun e w' => e = .returned (fndV (findF s.toList m (knL 256))) ∧ Below w.heap.size w w' := by
  refine (callsIn_wide (n := 6)).1 ?_
  refine callsIn_of_wp_marks Tryd.func16 rfl trivial ?_ rfl
  simp only [Tryd.ntmps16, List.size_toArray, List.length_cons, List.length_nil, Nat.reduceAdd, Nat.reduceSub, Array.replicate_succ, Array.replicate_zero, List.push_toArray, List.append_toArray, List.nil_append, List.cons_append]
  gi_wp2
  refine ⟨trivial, callsIn_wide.2 ?_⟩
  have hB4 : Below w.heap.size w ((((w.alloc (.cells #[.string s] 9)).alloc (.cells #[.int .u8 m] 5)).alloc (.cells #[.int .u8 0] 5)).alloc (.cells #[.bool false] 4)) :=
    ((((Below.refl _ w).alloc (Nat.le_refl _) _).alloc (by simp) _).alloc (by simp; omega) _).alloc (by simp; omega) _
  have b0 : Blk ((((w.alloc (.cells #[.string s] 9)).alloc (.cells #[.int .u8 m] 5)).alloc (.cells #[.int .u8 0] 5)).alloc (.cells #[.bool false] 4)) w.heap.size 9 #[.string s] := (((Blk.new w _ _).alloc _).alloc _).alloc _
  have b1 : Blk ((((w.alloc (.cells #[.string s] 9)).alloc (.cells #[.int .u8 m] 5)).alloc (.cells #[.int .u8 0] 5)).alloc (.cells #[.bool false] 4)) (w.heap.size + 1) 5 #[.int .u8 m] := ((Blk.new_ (by simp)).alloc _).alloc _
  have b2 : Blk ((((w.alloc (.cells #[.string s] 9)).alloc (.cells #[.int .u8 m] 5)).alloc (.cells #[.int .u8 0] 5)).alloc (.cells #[.bool false] 4)) (w.heap.size + 1 + 1) 5 #[.int .u8 0] := (Blk.new_ (by simp)).alloc _
  have b3 : Blk ((((w.alloc (.cells #[.string s] 9)).alloc (.cells #[.int .u8 m] 5)).alloc (.cells #[.int .u8 0] 5)).alloc (.cells #[.bool false] 4)) (w.heap.size + 1 + 1 + 1) 4 #[.bool false] := Blk.new_ (by simp)
  have s4 : ((((w.alloc (.cells #[.string s] 9)).alloc (.cells #[.int .u8 m] 5)).alloc (.cells #[.int .u8 0] 5)).alloc (.cells #[.bool false] 4)).heap.size = w.heap.size + 4 := by simp
  generalize World.alloc _ _ = w4 at *
  refine (knownit_any w4).mono ?_
  rintro e w5 ⟨rfl, rfl⟩
  gi_wp2
  refine wpIn_rangeFunc_ownH rfl (by omega) (gf := 85) (lb := #[]) rfl trivial (enters_of Tryd.func85 (by kernel_rfl) rfl)
    (known_stops 5 (by omega) w4) (fun _ _ => trivial) (fun _ _ _ _ _ _ _ _ => trivial) (Below.refl _ _) (fun _ => rfl)
    (fun pre W1 => ((∀ y ∈ pre, fitB s.toList m y.val = false) ∧ Blk W1 w.heap.size 9 #[.string s] ∧ Blk W1 (w.heap.size + 1) 5 #[.int .u8 m] ∧ Blk W1 (w.heap.size + 1 + 1) 5 #[.int .u8 0] ∧ Blk W1 (w.heap.size + 1 + 1 + 1) 4 #[.bool false]) ∧ Below w.heap.size w W1)
    (fun c pre W1 => (c = .ret ∧ ∃ (q : List (Fin 256)) (x : Fin 256), pre = q ++ [x] ∧ (∀ y ∈ q, fitB s.toList m y.val = false) ∧ fitB s.toList m x.val = true ∧ Blk W1 (w.heap.size + 1 + 1) 5 #[.int .u8 (x.val : Int)] ∧ Blk W1 (w.heap.size + 1 + 1 + 1) 4 #[.bool true]) ∧ Below w.heap.size w W1)
    (OwnFrom.and (Own.from (fun z A B row hs hg hr => ⟨hs.1, mblk_own hs.2.1 hg hr, mblk_own hs.2.2.1 hg hr, mblk_own hs.2.2.2.1 hg hr, mblk_own hs.2.2.2.2 hg hr⟩) _) (ownFrom_below (Nat.le_refl _) (by omega)))
    (fun c => OwnFrom.and (Own.from (fun z A B row hs hg hr => by obtain ⟨h1, q, x, h2, h3, h4, h5, h6⟩ := hs; exact ⟨h1, q, x, h2, h3, h4, mblk_own h5 hg hr, mblk_own h6 hg hr⟩) _) (ownFrom_below (Nat.le_refl _) (by omega)))
    ⟨⟨by simp, b0, b1, b2, b3⟩, hB4⟩
    (fun x a' W => ∃ Bx, w.heap.size + 1 + 1 + 1 < Bx ∧ Blk W Bx 24 #[.string (mkS (opN x.val)), .int .u8 (opM x.val : Int), .int .i64 (opZ x.val), .int .i64 (opY x.val : Int)] ∧ a' = { tmps := #[.string s, .int .u8 m, .pointer (some ⟨w.heap.size, 0, none⟩), .pointer (some ⟨w.heap.size + 1, 0, none⟩), .pointer (some ⟨w.heap.size + 1 + 1, 0, none⟩), .pointer (some ⟨w.heap.size + 1 + 1 + 1, 0, none⟩), .int .u8 (x.val : Int), .pointer (some ⟨Bx, 0, none⟩), .func (.func 85) #[] #[], .int .u8 (x.val : Int), opV x.val, undef, undef, undef, undef, undef, undef, undef, undef, undef, undef, undef], defers := [] })
    (fun x a' _ X Y row hs hg hr => by obtain ⟨Bx, h1, h2, h3⟩ := hs; exact ⟨Bx, h1, mblk_own h2 hg (fun r e => (hr r e).2), h3⟩)
    ?assign ?body ?done ?stop
  case assign =>
    rintro l pre x W K ⟨⟨hp, h0, h1, h2, h3⟩, hB1⟩ hK
    have hs1 := h3.lt
    unfold opV
    gi_wp2
    exact hK _ _ ((KeepsOthers.alloc _ _).from _) trivial ⟨⟨hp, h0.alloc _, h1.alloc _, h2.alloc _, h3.alloc _⟩, hB1.alloc hB1.size _⟩ ⟨W.heap.size, hs1, Blk.new W _ _, rfl⟩
  case body =>
    rintro l pre x a' W1 hl ⟨r, hr⟩ ⟨⟨hp, h0, h1, h2, h3⟩, hB⟩ ⟨Bx, hBx, bX, rfl⟩ hlt
    have c0 : W1.cell? ⟨w.heap.size, 0, none⟩ = some (.string s) := h0.cell 0
    have c1 : W1.cell? ⟨w.heap.size + 1, 0, none⟩ = some (.int .u8 m) := h1.cell 0
    have c2 : W1.cell? ⟨w.heap.size + 1 + 1, 0, none⟩ = some (.int .u8 0) := h2.cell 0
    have c3 : W1.cell? ⟨w.heap.size + 1 + 1 + 1, 0, none⟩ = some (.bool false) := h3.cell 0
    have f2 := h2.frozen 0
    have f3 := h3.frozen 0
    have d0 : W1.cell? ⟨Bx, 0, none⟩ = some (.string (mkS (opN x.val))) := bX.cell 0
    have d1 : W1.cell? ⟨Bx, 1, none⟩ = some (.int .u8 (opM x.val : Int)) := bX.cell 1
    have hft : fitB s.toList m x.val = (((mkS (opN x.val)).toList == s.toList) && ((opM x.val : Int) == m)) := by rw [mkS_toList]; rfl
    have HP := Lib.hid hp
    have H2 := Lib.hid h2
    have H3 := Lib.hid h3
    have H0 := Lib.hid h0
    have H1 := Lib.hid h1
    obtain ⟨z1, hz1⟩ : ∃ z, ((mkS (opN x.val)).toList == s.toList) = z := ⟨_, rfl⟩
    obtain ⟨z2, hz2⟩ : ∃ z, ((opM x.val : Int) == m) = z := ⟨_, rfl⟩
    rw [hz1, hz2] at hft
    clear hp h0 h1 h2 h3 bX
    have HFT := Lib.hid hft
    clear hft
    generalize opV x.val = vx
    cases z1 <;> cases z2
    · gi_wp2
      exact ⟨(KeepsOthers.refl _).from _, trivial, ⟨fun y hy => (List.mem_append.1 hy).elim (HP.out y) (fun e => by simp at e; subst e; exact HFT.out), H0.out, H1.out, H2.out, H3.out⟩, hB⟩
    · gi_wp2
      exact ⟨(KeepsOthers.refl _).from _, trivial, ⟨fun y hy => (List.mem_append.1 hy).elim (HP.out y) (fun e => by simp at e; subst e; exact HFT.out), H0.out, H1.out, H2.out, H3.out⟩, hB⟩
    · gi_wp2
      exact ⟨(KeepsOthers.refl _).from _, trivial, ⟨fun y hy => (List.mem_append.1 hy).elim (HP.out y) (fun e => by simp at e; subst e; exact HFT.out), H0.out, H1.out, H2.out, H3.out⟩, hB⟩
    · gi_wp2
      exact ⟨((KeepsOthers.setCell _ _ _).trans (KeepsOthers.setCell _ _ _)).from _, ⟨rfl, pre, x, rfl, HP.out, HFT.out, (H2.out.set_ 0 (.int .u8 (x.val : Int))).far (p := ⟨w.heap.size + 1 + 1 + 1, 0, none⟩) (by simp) _, (H3.out.far (p := ⟨w.heap.size + 1 + 1, 0, none⟩) (by simp) _).set_ 0 (.bool true)⟩,
        (hB.setCell (p := ⟨w.heap.size + 1 + 1, 0, none⟩) (by simp; omega) _).setCell (p := ⟨w.heap.size + 1 + 1 + 1, 0, none⟩) (by simp; omega) _⟩
  case done =>
    rintro D xs W1 hD rfl ⟨⟨hne, _, _, h2, h3⟩, hB⟩ hK
    have c2 : W1.cell? ⟨w.heap.size + 1 + 1, 0, none⟩ = some (.int .u8 0) := h2.cell 0
    have c3 : W1.cell? ⟨w.heap.size + 1 + 1 + 1, 0, none⟩ = some (.bool false) := h3.cell 0
    have f2 := h2.frozen 0
    have f3 := h3.frozen 0
    have H2 := Lib.hid h2
    have H3 := Lib.hid h3
    clear h2 h3
    gi_wp2
    have KO : KeepsOthers W1 ((W1.setCell ⟨w.heap.size + 1 + 1, 0, none⟩ (.int .u8 0)).setCell ⟨w.heap.size + 1 + 1 + 1, 0, none⟩ (.bool false)) := (KeepsOthers.setCell _ _ _).trans (KeepsOthers.setCell _ _ _)
    have X2 : Blk ((W1.setCell ⟨w.heap.size + 1 + 1, 0, none⟩ (.int .u8 0)).setCell ⟨w.heap.size + 1 + 1 + 1, 0, none⟩ (.bool false)) (w.heap.size + 1 + 1) 5 #[.int .u8 0] := (H2.out.set_ 0 (.int .u8 0)).far (p := ⟨w.heap.size + 1 + 1 + 1, 0, none⟩) (by simp) _
    have X3 : Blk ((W1.setCell ⟨w.heap.size + 1 + 1, 0, none⟩ (.int .u8 0)).setCell ⟨w.heap.size + 1 + 1 + 1, 0, none⟩ (.bool false)) (w.heap.size + 1 + 1 + 1) 4 #[.bool false] := (H3.out.far (p := ⟨w.heap.size + 1 + 1, 0, none⟩) (by simp) _).set_ 0 (.bool false)
    have hB2 : Below w.heap.size w ((W1.setCell ⟨w.heap.size + 1 + 1, 0, none⟩ (.int .u8 0)).setCell ⟨w.heap.size + 1 + 1 + 1, 0, none⟩ (.bool false)) := (hB.setCell (p := ⟨w.heap.size + 1 + 1, 0, none⟩) (by simp; omega) _).setCell (p := ⟨w.heap.size + 1 + 1 + 1, 0, none⟩) (by simp; omega) _
    generalize (W1.setCell ⟨w.heap.size + 1 + 1, 0, none⟩ (.int .u8 0)).setCell ⟨w.heap.size + 1 + 1 + 1, 0, none⟩ (.bool false) = W2 at *
    have hK' := KO.same D _ hK rfl
    refine ⟨by simp, .inl ⟨_, _, rfl, run_takeDeferred hK', ?_⟩⟩
    have e2 := cell_kept (X2.cell 0) (grownBy_putObj' _ D (.deferred none)) (fun r e => by cases e; exact ⟨_, hK', rfl⟩)
    have e3 := cell_kept (X3.cell 0) (grownBy_putObj' _ D (.deferred none)) (fun r e => by cases e; exact ⟨_, hK', rfl⟩)
    refine ⟨.tuple #[.int .u8 0, .bool false], ?_, by rw [findF_none hne]; rfl, hB2.trans (belowK_b (w := w) (Nat.le_refl _) _ D _ _ (by omega) hK' rfl rfl)⟩
    simp at e2 e3
    simp [results, Tryd.f16, go_sem, e2, e3]
  case stop =>
    rintro D c pre W1 hD hpre ⟨⟨rfl, q, x, rfl, hq, hx, h2, h3⟩, hB⟩ hK
    gi_wp2
    refine ⟨by simp, .inl ⟨_, _, rfl, run_takeDeferred hK, ?_⟩⟩
    have e2 := cell_kept (h2.cell 0) (grownBy_putObj' _ D (.deferred none)) (fun r e => by cases e; exact ⟨_, hK, rfl⟩)
    have e3 := cell_kept (h3.cell 0) (grownBy_putObj' _ D (.deferred none)) (fun r e => by cases e; exact ⟨_, hK, rfl⟩)
    obtain ⟨r, hr⟩ := hpre
    refine ⟨.tuple #[.int .u8 (x.val : Int), .bool true], ?_, by rw [← hr, findF_pre hq hx]; rfl, hB.trans (belowK_b (w := w) (Nat.le_refl _) W1 D _ _ (by omega) hK rfl rfl)⟩
    simp at e2 e3
    simp [results, Tryd.f16, go_sem, e2, e3]
end Go.Proofs.YtleofglnlfpoeaaDoor
