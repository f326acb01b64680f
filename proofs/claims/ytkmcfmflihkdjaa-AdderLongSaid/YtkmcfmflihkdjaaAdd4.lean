/-
  Adder: Long.
-/
import Derived.Test.YtkmcfmflihkdjaaAdd2
import Derived.Deep.OwnRows
import Derived.Deep.RegionWith
namespace Go.Proofs.Ytkmcfmflihkdjaa
open Go.RowKit
set_option linter.unusedVariables false
set_option linter.unusedSimpArgs false
set_option maxRecDepth 100000
def stV (sub : Bool) (a b p : Int) : Int := if sub then sbV a b p else adV a b p
def stP (sub : Bool) (a b p : Int) : Int := if sub then sbP a b p else adP a b p
theorem stV_bd (sub : Bool) (a b p : Int) : 0 ≤ stV sub a b p ∧ stV sub a b p ≤ 255 := by cases sub; exact adV_bd _ _ _; exact sbV_bd _ _ _
/-- The flags behind k bytes. -/
def lgP (sub : Bool) (a b : Nat → Int) (p : Int) : Nat → Int
  | 0 => p
  | k + 1 => stP sub (a k) (b k) (lgP sub a b p k)
def lgV (sub : Bool) (a b : Nat → Int) (p : Int) (k : Nat) : Int := stV sub (a k) (b k) (lgP sub a b p k)
def FillI (C : Array Value) (k : Nat) (st : Nat → Int) : Prop := ∀ i, i < k → C[i]? = some (.int .u8 (st i))
theorem FillI.set_ {C : Array Value} {k : Nat} {st : Nat → Int} (h : FillI C k st) (hk : k < C.size) : FillI (C.setIfInBounds k (.int .u8 (st k))) (k + 1) st := fun i hi => by
  by_cases e : i = k
  · subst e; simp [hk]
  · rw [Array.getElem?_setIfInBounds_ne (by omega)]; exact h i (by omega)
def LongR (w : World) (n : Nat) (sub : Bool) (a b : Nat → Int) (p : Int) (e : Ending) (w' : World) : Prop :=
  ∃ g : Nat, e = .returned (.tuple #[.slice (some ⟨g, 0, none⟩) n n, .int .u8 (lgP sub a b p n), .int .i64 0]) ∧ w.heap.size ≤ g ∧ IRow w' .u8 (some ⟨g, 0, none⟩) n (lgV sub a b p) ∧ Below w.heap.size w w'
theorem long_no {w : World} (A B : Option Addr) (n m c d : Nat) (p : Int) (sub : Bool) (h : n ≠ m) :
    Calls Try.prog 19 #[.slice A n c, .slice B m d, .int .u8 p, .bool sub] w fun e w' => e = .returned (.tuple #[.slice none 0 0, .int .u8 0, .int .i64 13]) ∧ w = w' := by
  have hn : ((n : Int) != m) = true := by rw [bne_iff_ne]; omega
  go_enter Try.func19, Try.ntmps19
  go_wp2
  go_ret3
  exact ⟨rfl, rfl⟩
set_option maxHeartbeats 8000000 in
theorem long_false {w : World} {A B : Option Addr} {n c d : Nat} {a b : Nat → Int} (p : Int) (R : IRow w .u8 A n a) (Q : IRow w .u8 B n b) (hn : n ≤ 1000) :
    Calls Try.prog 19 #[.slice A n c, .slice B n d, .int .u8 p, .bool false] w (LongR w n false a b p) := by
  have hmk := fun w => run_make_row' (P := Try.prog) 27 5 (.int .u8 0) 1 Try.underlying27 (by kernel_rfl) rfl .i64 .i64 n (by omega) (by omega) w
  have hne : ((n : Int) != n) = false := by simp
  have HR := Lib.hid R
  have HQ := Lib.hid Q
  clear R Q
  go_enter Try.func19, Try.ntmps19
  go_wp2_with fail
  clear hne
  have hz := size_madeCells #[Value.int .u8 0] n
  have ho2 := Blk.new w 5 (madeCells #[Value.int .u8 0] n)
  have hB2 : Below w.heap.size w (w.alloc (.cells (madeCells #[Value.int .u8 0] n) 5)) := (Below.refl _ _).alloc (Nat.le_refl _) _
  generalize madeCells #[Value.int .u8 0] n = C0 at *
  generalize World.alloc _ _ = w2 at *
  have hF0 : FillI C0 0 (lgV false a b p) := fun i hi => absurd hi (by omega)
  generalize hgg : w.heap.size = g at *
  have HGG := Lib.hid hgg
  clear hgg
  go_loopw [2, 25] (fun q i wr => ∃ k : Nat, k ≤ n ∧ i = .int .i64 k ∧ q = .int .u8 (lgP false a b p k) ∧ ∃ C : Array Value, Blk wr g 5 C ∧ C.size = n ∧ FillI C k (lgV false a b p) ∧ Below g w wr) (fun _ i _ => n - (intOf i).toNat)
  case atStart => exact ⟨0, by omega, rfl, rfl, C0, ho2, hz, hF0, hB2⟩
  case round =>
    obtain ⟨k, hk, rfl, rfl, C, ho, hC, hF, hB⟩ := hrel
    have zB := hB.size
    rw [HGG.out] at zB
    have hol := ho.lt
    by_cases hlt : k < n
    · obtain ⟨ad, rfl, hl, h0, w0⟩ := HR.out k hlt
      obtain ⟨bd, rfl, hm, h1, w1⟩ := HQ.out k hlt
      rw [HGG.out] at hl hm
      obtain ⟨x0, x1⟩ := bounds_u8 w0
      obtain ⟨y0, y1⟩ := bounds_u8 w1
      have hc0 := (hB.cell (p := ad.add k) (by rw [block_of_add]; exact hl)).trans h0
      have hc1 := (hB.cell (p := bd.add k) (by rw [block_of_add]; exact hm)).trans h1
      have e1 : lgP false a b p (k + 1) = adP (a k) (b k) (lgP false a b p k) := rfl
      have e2 : lgV false a b p k = adV (a k) (b k) (lgP false a b p k) := rfl
      obtain ⟨x, hx⟩ : ∃ x, a k = x := ⟨_, rfl⟩
      obtain ⟨y, hy⟩ : ∃ y, b k = y := ⟨_, rfl⟩
      obtain ⟨q, hq⟩ : ∃ q, lgP false a b p k = q := ⟨_, rfl⟩
      rw [hx, hy, hq] at e1 e2
      rw [hx] at hc0 x0 x1
      rw [hy] at hc1 y0 y1
      rw [hq]
      obtain ⟨u, hu⟩ : ∃ u, adV x y q = u := ⟨_, rfl⟩
      obtain ⟨v, hv⟩ : ∃ v, adP x y q = v := ⟨_, rfl⟩
      obtain ⟨cv, hck⟩ : ∃ cv, wr.cell? ⟨g, k, none⟩ = some cv := ⟨C[k]'(by rw [hC]; exact hlt), by rw [ho.cell k]; simp⟩
      have hfr := ho.frozen k
      have HU := Lib.hid hu
      have HV := Lib.hid hv
      have E1 := Lib.hid e1
      have E2 := Lib.hid e2
      have HC := Lib.hid hC
      have HO := Lib.hid ho
      have HB := Lib.hid hB
      have HF := Lib.hid hF
      clear h0 h1 w0 w1 hx hy hq hu hv e1 e2 hC hl hm ho hB hF ho2 hz hF0 hB2 hmk
      go_wp2_with fail
      go_region_with (go_at_call 13; refine (aAdd_any x y q _ x0 x1 y0 y1).mono ?_; rw [HU.out, HV.out]; rintro e w3 ⟨rfl, b3⟩; have hck3 := (b3.cell (p := ⟨g, k, none⟩) (by exact hol)).trans (by exact hck); have hfr3 := (b3.frozen (p := ⟨g, k, none⟩) (by exact hol)).trans (by exact hfr); clear hck hfr hc0 hc1)
      all_goals
        have B3 : Below g w w3 := HB.out.drew.trans (b3.mono zB)
        have O3 : Blk w3 g 5 C := Blk.below HO.out.drew_ b3 hol
        have B4 := Lib.hid (B3.setCell (p := ⟨g, k, none⟩) (Nat.le_refl g) (.int .u8 u))
        have O4 := Lib.hid (O3.set_ k (.int .u8 u))
        clear B3 O3 b3 hck3 hfr3
        go_wp2_with fail
        go_roundw
        case rel =>
          refine ⟨k + 1, by omega, by go_num, by rw [E1.out, HV.out], _, O4.out, by simp [HC.out], ?_, B4.out⟩
          rw [show u = lgV false a b p k by rw [E2.out, HU.out]]
          exact HF.out.set_ (by rw [HC.out]; exact hlt)
        case measure => simp [intOf]; omega
    · obtain rfl : k = n := by omega
      go_wp2_with fail
      go_ret3
      refine ⟨g, rfl, by rw [HGG.out]; omega, fun i hi => ⟨_, rfl, ho.lt, ?_, ?_⟩, by rw [HGG.out]; exact hB⟩
      · rw [add_zero_block]; exact (ho.cell i).trans (hF i hi)
      · have := stV_bd false (a i) (b i) (lgP false a b p i); exact WalkArith.wf_u8 (by unfold lgV; omega)
set_option maxHeartbeats 8000000 in
theorem long_true {w : World} {A B : Option Addr} {n c d : Nat} {a b : Nat → Int} (p : Int) (R : IRow w .u8 A n a) (Q : IRow w .u8 B n b) (hn : n ≤ 1000) :
    Calls Try.prog 19 #[.slice A n c, .slice B n d, .int .u8 p, .bool true] w (LongR w n true a b p) := by
  have hmk := fun w => run_make_row' (P := Try.prog) 27 5 (.int .u8 0) 1 Try.underlying27 (by kernel_rfl) rfl .i64 .i64 n (by omega) (by omega) w
  have hne : ((n : Int) != n) = false := by simp
  have HR := Lib.hid R
  have HQ := Lib.hid Q
  clear R Q
  go_enter Try.func19, Try.ntmps19
  go_wp2_with fail
  clear hne
  have hz := size_madeCells #[Value.int .u8 0] n
  have ho2 := Blk.new w 5 (madeCells #[Value.int .u8 0] n)
  have hB2 : Below w.heap.size w (w.alloc (.cells (madeCells #[Value.int .u8 0] n) 5)) := (Below.refl _ _).alloc (Nat.le_refl _) _
  generalize madeCells #[Value.int .u8 0] n = C0 at *
  generalize World.alloc _ _ = w2 at *
  have hF0 : FillI C0 0 (lgV true a b p) := fun i hi => absurd hi (by omega)
  generalize hgg : w.heap.size = g at *
  have HGG := Lib.hid hgg
  clear hgg
  go_loopw [2, 25] (fun q i wr => ∃ k : Nat, k ≤ n ∧ i = .int .i64 k ∧ q = .int .u8 (lgP true a b p k) ∧ ∃ C : Array Value, Blk wr g 5 C ∧ C.size = n ∧ FillI C k (lgV true a b p) ∧ Below g w wr) (fun _ i _ => n - (intOf i).toNat)
  case atStart => exact ⟨0, by omega, rfl, rfl, C0, ho2, hz, hF0, hB2⟩
  case round =>
    obtain ⟨k, hk, rfl, rfl, C, ho, hC, hF, hB⟩ := hrel
    have zB := hB.size
    rw [HGG.out] at zB
    have hol := ho.lt
    by_cases hlt : k < n
    · obtain ⟨ad, rfl, hl, h0, w0⟩ := HR.out k hlt
      obtain ⟨bd, rfl, hm, h1, w1⟩ := HQ.out k hlt
      rw [HGG.out] at hl hm
      obtain ⟨x0, x1⟩ := bounds_u8 w0
      obtain ⟨y0, y1⟩ := bounds_u8 w1
      have hc0 := (hB.cell (p := ad.add k) (by rw [block_of_add]; exact hl)).trans h0
      have hc1 := (hB.cell (p := bd.add k) (by rw [block_of_add]; exact hm)).trans h1
      have e1 : lgP true a b p (k + 1) = sbP (a k) (b k) (lgP true a b p k) := rfl
      have e2 : lgV true a b p k = sbV (a k) (b k) (lgP true a b p k) := rfl
      obtain ⟨x, hx⟩ : ∃ x, a k = x := ⟨_, rfl⟩
      obtain ⟨y, hy⟩ : ∃ y, b k = y := ⟨_, rfl⟩
      obtain ⟨q, hq⟩ : ∃ q, lgP true a b p k = q := ⟨_, rfl⟩
      rw [hx, hy, hq] at e1 e2
      rw [hx] at hc0 x0 x1
      rw [hy] at hc1 y0 y1
      rw [hq]
      obtain ⟨u, hu⟩ : ∃ u, sbV x y q = u := ⟨_, rfl⟩
      obtain ⟨v, hv⟩ : ∃ v, sbP x y q = v := ⟨_, rfl⟩
      obtain ⟨cv, hck⟩ : ∃ cv, wr.cell? ⟨g, k, none⟩ = some cv := ⟨C[k]'(by rw [hC]; exact hlt), by rw [ho.cell k]; simp⟩
      have hfr := ho.frozen k
      have HU := Lib.hid hu
      have HV := Lib.hid hv
      have E1 := Lib.hid e1
      have E2 := Lib.hid e2
      have HC := Lib.hid hC
      have HO := Lib.hid ho
      have HB := Lib.hid hB
      have HF := Lib.hid hF
      clear h0 h1 w0 w1 hx hy hq hu hv e1 e2 hC hl hm ho hB hF ho2 hz hF0 hB2 hmk
      go_wp2_with fail
      go_region_with (go_at_call 14; refine (aSub_any x y q _ x0 x1 y0 y1).mono ?_; rw [HU.out, HV.out]; rintro e w3 ⟨rfl, b3⟩; have hck3 := (b3.cell (p := ⟨g, k, none⟩) (by exact hol)).trans (by exact hck); have hfr3 := (b3.frozen (p := ⟨g, k, none⟩) (by exact hol)).trans (by exact hfr); clear hck hfr hc0 hc1)
      all_goals
        have B3 : Below g w w3 := HB.out.drew.trans (b3.mono zB)
        have O3 : Blk w3 g 5 C := Blk.below HO.out.drew_ b3 hol
        have B4 := Lib.hid (B3.setCell (p := ⟨g, k, none⟩) (Nat.le_refl g) (.int .u8 u))
        have O4 := Lib.hid (O3.set_ k (.int .u8 u))
        clear B3 O3 b3 hck3 hfr3
        go_wp2_with fail
        go_roundw
        case rel =>
          refine ⟨k + 1, by omega, by go_num, by rw [E1.out, HV.out], _, O4.out, by simp [HC.out], ?_, B4.out⟩
          rw [show u = lgV true a b p k by rw [E2.out, HU.out]]
          exact HF.out.set_ (by rw [HC.out]; exact hlt)
        case measure => simp [intOf]; omega
    · obtain rfl : k = n := by omega
      go_wp2_with fail
      go_ret3
      refine ⟨g, rfl, by rw [HGG.out]; omega, fun i hi => ⟨_, rfl, ho.lt, ?_, ?_⟩, by rw [HGG.out]; exact hB⟩
      · rw [add_zero_block]; exact (ho.cell i).trans (hF i hi)
      · have := stV_bd true (a i) (b i) (lgP true a b p i); exact WalkArith.wf_u8 (by unfold lgV; omega)
theorem long_any {w : World} {A B : Option Addr} {n c d : Nat} {a b : Nat → Int} (p : Int) (sub : Bool) (R : IRow w .u8 A n a) (Q : IRow w .u8 B n b) (hn : n ≤ 1000) :
    Calls Try.prog 19 #[.slice A n c, .slice B n d, .int .u8 p, .bool sub] w (LongR w n sub a b p) := by
  cases sub
  · exact long_false p R Q hn
  · exact long_true p R Q hn
end Go.Proofs.Ytkmcfmflihkdjaa
