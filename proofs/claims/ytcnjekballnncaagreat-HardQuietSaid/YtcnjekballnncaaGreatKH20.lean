/-
  Texts of these proofs, one behind the other: Tim1, MB.
-/
import Derived.Test.YtcnjekballnncaaGreatKH19
import Derived.Test.YtcnjekballnncaaGreatKH03
import Derived.Test.YtcnjekballnncaaGreatKH08
import Derived.Test.YtcnjekballnncaaGreatKH11
namespace Go.Proofs.YtcnjekballnncaaGreat
open Go.RowKit
set_option linter.unusedVariables false
set_option linter.unusedSimpArgs false
set_option maxRecDepth 100000
/-- The cells of a timer, laid at place o. -/
def tmPut (cs : Array Value) (o : Nat) (s : Tm) : Array Value := (((cs.setIfInBounds o (.int .i64 s.gone)).setIfInBounds (o + 1) (.int .u8 s.c)).setIfInBounds (o + 2) (.int .u8 s.r)).setIfInBounds (o + 3) (.bool s.on)
section
variable {cs : Array Value} {o : Nat} {s : Tm}
theorem tmPut_size : (tmPut cs o s).size = cs.size := by simp [tmPut]
theorem tmPut_at (i : Nat) (h : o + 4 ≤ cs.size) : (tmPut cs o s)[i]? = if i = o then some (.int .i64 s.gone) else if i = o + 1 then some (.int .u8 s.c) else if i = o + 2 then some (.int .u8 s.r) else if i = o + 3 then some (.bool s.on) else cs[i]? := by
  unfold tmPut
  simp only [Array.getElem?_setIfInBounds, Array.size_setIfInBounds]
  by_cases e0 : i = o
  · subst e0; simp; omega
  by_cases e1 : i = o + 1
  · subst e1; simp; omega
  by_cases e2 : i = o + 2
  · subst e2; simp; omega
  by_cases e3 : i = o + 3
  · subst e3; simp; omega
  rw [if_neg (by omega), if_neg (by omega), if_neg (by omega), if_neg (by omega), if_neg e0, if_neg e1, if_neg e2, if_neg e3]
theorem tmPut_put (h : o + 4 ≤ cs.size) (s' : Tm) : tmPut (tmPut cs o s) o s' = tmPut cs o s' := by
  apply Array.ext_getElem?
  intro i
  rw [tmPut_at i (by rw [tmPut_size]; exact h), tmPut_at i h, tmPut_at i h]
  split <;> (try rfl)
  split <;> (try rfl)
  split <;> (try rfl)
  split <;> rfl
theorem tmPut_gone (h : o + 4 ≤ cs.size) (x : Nat) : (tmPut cs o s).setIfInBounds o (.int .i64 x) = tmPut cs o ⟨x, s.c, s.r, s.on⟩ := by
  apply Array.ext_getElem?
  intro i
  rw [Array.getElem?_setIfInBounds, tmPut_at i h, tmPut_at i h, tmPut_size]
  by_cases e : o = i
  · subst e; simp; omega
  · have e' : ¬ i = o := fun x => e x.symm
    rw [if_neg e]
    simp only [if_neg e']
theorem tmPut_c (h : o + 4 ≤ cs.size) (x : Nat) : (tmPut cs o s).setIfInBounds (o + 1) (.int .u8 x) = tmPut cs o ⟨s.gone, x, s.r, s.on⟩ := by
  apply Array.ext_getElem?
  intro i
  rw [Array.getElem?_setIfInBounds, tmPut_at i h, tmPut_at i h, tmPut_size]
  by_cases e : o + 1 = i
  · subst e; simp; omega
  · have e' : ¬ i = o + 1 := fun x => e x.symm
    rw [if_neg e]
    simp only [if_neg e']
theorem tmPut_r (h : o + 4 ≤ cs.size) (x : Nat) : (tmPut cs o s).setIfInBounds (o + 2) (.int .u8 x) = tmPut cs o ⟨s.gone, s.c, x, s.on⟩ := by
  apply Array.ext_getElem?
  intro i
  rw [Array.getElem?_setIfInBounds, tmPut_at i h, tmPut_at i h, tmPut_size]
  by_cases e : o + 2 = i
  · subst e; simp; omega
  · have e' : ¬ i = o + 2 := fun x => e x.symm
    rw [if_neg e]
    simp only [if_neg e']
theorem tmPut_on (h : o + 4 ≤ cs.size) (x : Bool) : (tmPut cs o s).setIfInBounds (o + 3) (.bool x) = tmPut cs o ⟨s.gone, s.c, s.r, x⟩ := by
  apply Array.ext_getElem?
  intro i
  rw [Array.getElem?_setIfInBounds, tmPut_at i h, tmPut_at i h, tmPut_size]
  by_cases e : o + 3 = i
  · subst e; simp; omega
  · have e' : ¬ i = o + 3 := fun x => e x.symm
    rw [if_neg e]
    simp only [if_neg e']
end
/-- At place o of block g, whose other cells are those of cs, there is a timer. -/
def TM (w : World) (g : Nat) (T : TypeId) (cs : Array Value) (o : Nat) (s : Tm) : Prop := Blk w g T (tmPut cs o s) ∧ o + 4 ≤ cs.size ∧ s.ok
section
variable {w w' : World} {g : Nat} {T : TypeId} {cs : Array Value} {o : Nat} {s : Tm}
theorem TM.kp {L : List Nat} (h : TM w g T cs o s) (k : Kp L w w') (hL : g ∉ L) : TM w' g T cs o s := ⟨h.1.kp k hL, h.2⟩
theorem TM.keep {n : Nat} (h : TM w g T cs o s) (k : Below n w w') (hn : g < n) : TM w' g T cs o s := ⟨h.1.below k hn, h.2⟩
theorem TM.lt (h : TM w g T cs o s) : g < w.heap.size := h.1.lt
theorem TM.cells (h : TM w g T cs o s) : w.cell? ⟨g, o, none⟩ = some (.int .i64 s.gone) ∧ w.cell? ⟨g, o + 1, none⟩ = some (.int .u8 s.c) ∧ w.cell? ⟨g, o + 2, none⟩ = some (.int .u8 s.r) ∧ w.cell? ⟨g, o + 3, none⟩ = some (.bool s.on) := by
  obtain ⟨hb, hs, _⟩ := h
  refine ⟨?_, ?_, ?_, ?_⟩ <;> rw [hb.cell, tmPut_at _ hs] <;> simp
end
section
variable {w : World} {g : Nat} {T : TypeId} {cs : Array Value} {o : Nat} {s : Tm}
theorem tcounter_any (h : TM w g T cs o s) :
    Calls Tryz.prog 48 #[.pointer (some ⟨g, o, none⟩)] w fun e w' => e = .returned (.int .u8 s.c) ∧ w = w' := by
  obtain ⟨c0, c1, c2, c3⟩ := h.cells
  clear h
  go_enter Tryz.func48, Tryz.ntmps48
  go_wp2
  go_ret
  exact ⟨rfl, rfl⟩
theorem treload_any (h : TM w g T cs o s) :
    Calls Tryz.prog 47 #[.pointer (some ⟨g, o, none⟩)] w fun e w' => e = .returned (.int .u8 s.r) ∧ w = w' := by
  obtain ⟨c0, c1, c2, c3⟩ := h.cells
  clear h
  go_enter Tryz.func47, Tryz.ntmps47
  go_wp2
  go_ret
  exact ⟨rfl, rfl⟩
theorem ton_any (h : TM w g T cs o s) :
    Calls Tryz.prog 52 #[.pointer (some ⟨g, o, none⟩)] w fun e w' => e = .returned (.bool s.on) ∧ w = w' := by
  obtain ⟨c0, c1, c2, c3⟩ := h.cells
  clear h
  go_enter Tryz.func52, Tryz.ntmps52
  go_wp2
  go_ret
  exact ⟨rfl, rfl⟩
theorem tleft_any (h : TM w g T cs o s) :
    Calls Tryz.prog 51 #[.pointer (some ⟨g, o, none⟩)] w fun e w' => e = .returned (.int .i64 (3072 - s.gone)) ∧ w = w' := by
  obtain ⟨c0, c1, c2, c3⟩ := h.cells
  obtain ⟨_, _, k, _, _⟩ := h
  obtain ⟨gone, c, r, on⟩ := s
  dsimp only at *
  go_enter Tryz.func51, Tryz.ntmps51
  go_wp2
  go_ret
  exact ⟨rfl, rfl⟩
end
section
variable (w : World)
theorem tcounter_nil : Calls Tryz.prog 48 #[.pointer none] w fun e w' => e = .returned (.int .u8 0) ∧ w = w' := by
  go_enter Tryz.func48, Tryz.ntmps48
  go_wp2
  go_ret
  exact ⟨rfl, rfl⟩
theorem treload_nil : Calls Tryz.prog 47 #[.pointer none] w fun e w' => e = .returned (.int .u8 0) ∧ w = w' := by
  go_enter Tryz.func47, Tryz.ntmps47
  go_wp2
  go_ret
  exact ⟨rfl, rfl⟩
theorem ton_nil : Calls Tryz.prog 52 #[.pointer none] w fun e w' => e = .returned (.bool false) ∧ w = w' := by
  go_enter Tryz.func52, Tryz.ntmps52
  go_wp2
  go_ret
  exact ⟨rfl, rfl⟩
theorem tleft_nil : Calls Tryz.prog 51 #[.pointer none] w fun e w' => e = .returned (.int .i64 0) ∧ w = w' := by
  go_enter Tryz.func51, Tryz.ntmps51
  go_wp2
  go_ret
  exact ⟨rfl, rfl⟩
theorem tclone_nil : Calls Tryz.prog 37 #[.pointer none] w fun e w' => e = .returned (.pointer none) ∧ w = w' := by
  go_enter Tryz.func37, Tryz.ntmps37
  go_wp2
  go_ret
  exact ⟨rfl, rfl⟩
theorem twrite_nil (r b : Int) : Calls Tryz.prog 66 #[.pointer none, .int .i64 r, .int .u8 b] w fun e w' => e = .returned (.tuple #[]) ∧ w = w' := by
  go_enter Tryz.func66, Tryz.ntmps66
  go_wp2
  first | go_end0 | refine bodyPost_ret (results_none rfl _ _ _) rfl ?_
  exact ⟨rfl, rfl⟩
theorem tgo_nil (n : Int) : Calls Tryz.prog 57 #[.pointer none, .int .i64 n] w fun e w' => e = .returned (.int .i64 0) ∧ w = w' := by
  go_enter Tryz.func57, Tryz.ntmps57
  go_wp2_with (go_at_call 52; refine (ton_nil _).mono ?_; rintro e w' ⟨rfl, rfl⟩)
  go_ret
  exact ⟨rfl, rfl⟩
end
def NewTR (w : World) (e : Ending) (w' : World) : Prop :=
  e = .returned (.pointer (some ⟨w.heap.size, 0, none⟩)) ∧ TM w' w.heap.size 71 (Array.replicate 4 .nilFunc) 0 Tm.new ∧ Below w.heap.size w w'
theorem tnew_any (w : World) : Calls Tryz.prog 24 #[] w (NewTR w) := by
  go_enter Tryz.func24, Tryz.ntmps24
  go_wp2
  go_ret
  exact ⟨rfl, ⟨Blk.new w _ _, by decide, Tm.new_ok⟩, (Below.refl _ _).alloc (Nat.le_refl _) _⟩
end Go.Proofs.YtcnjekballnncaaGreat
namespace Go.Proofs.YtcnjekballnncaaGreat
open Go.RowKit
set_option linter.unusedVariables false
set_option maxRecDepth 100000
theorem bit0_fin : ∀ b : Fin 256, bitB (b.val : Int) 0 = decide ((b.val : Int) % 2 = 1) := by decide +kernel
theorem bit1_fin : ∀ b : Fin 256, bitB (b.val : Int) 1 = decide ((b.val : Int) / 2 % 2 = 1) := by decide +kernel
theorem bit0_eq {b : Int} (h0 : 0 ≤ b) (h1 : b ≤ 255) : bitB b 0 = decide (b % 2 = 1) := by
  have := bit0_fin ⟨b.toNat, by omega⟩
  rwa [show ((⟨b.toNat, by omega⟩ : Fin 256).val : Int) = b by simp; omega] at this
theorem bit1_eq {b : Int} (h0 : 0 ≤ b) (h1 : b ≤ 255) : bitB b 1 = decide (b / 2 % 2 = 1) := by
  have := bit1_fin ⟨b.toNat, by omega⟩
  rwa [show ((⟨b.toNat, by omega⟩ : Fin 256).val : Int) = b by simp; omega] at this
end Go.Proofs.YtcnjekballnncaaGreat
