/-
  Texts of these proofs, one behind the other: Port2, Lat1.
-/
import Derived.Test.YtcnjekballnncaaGreatKH25
import Derived.Laws.EntriesVeiled
import Derived.Test.YtcnjekballnncaaGreatKH11
import Derived.Test.YtcnjekballnncaaGreatKH02
import Derived.Test.YtcnjekballnncaaGreatKH03
import Derived.Handy
namespace Go.Proofs.YtcnjekballnncaaGreat
open Go.RowKit
set_option linter.unusedVariables false
set_option linter.unusedSimpArgs false
set_option maxRecDepth 100000
/-- A port by itself. -/
def P0 (w : World) (g cb n : Nat) (z : Nat → Int) (q : Nat) (s : Pt) : Prop := PT w g 89 (Array.replicate 4 .nilFunc) 0 cb n z q s
def NewPR (n : Nat) (z : Nat → Int) (w : World) (e : Ending) (w' : World) : Prop :=
  ∃ g cb, e = .returned (.pointer (some ⟨g, 0, none⟩)) ∧ w.heap.size ≤ g ∧ w.heap.size ≤ cb ∧ P0 w' g cb n z 0 ⟨0, 0⟩ ∧ Below w.heap.size w w'
set_option maxHeartbeats 1000000 in
theorem pnew_any {w : World} (A : Option Addr) (n c : Nat) (z : Nat → Int) (hA : A = none → n = 0 ∧ c = 0) (hm : n ≤ 140737488355328) (R : IRow w .u8 A n z) :
    Calls Tryz.prog 27 #[.slice A n c] w (NewPR n z w) := by
  have HR := Lib.hid R
  have HA := Lib.hid hA
  clear R hA
  go_enter Tryz.func27, Tryz.ntmps27
  go_wp2_with fail
  refine (new_any A n c z HA.out hm HR.out).mono ?_
  rintro e w1 ⟨g1, cb, rfl, h1, h2, h3, h4, h5, h6⟩
  have c0 : w1.cell? ⟨g1, 0, none⟩ = some (giveV cb) := h5.1.cell 0
  have c1 : w1.cell? ⟨g1, 1, none⟩ = some (.int .i64 0) := h5.1.cell 1
  obtain ⟨_, v, hc, hs⟩ := h5
  have HC := Lib.hid hc
  have HS := Lib.hid hs
  unfold giveV at c0
  clear hc hs
  go_wp2
  go_ret
  have sz := h6.size
  have k : Below w1.heap.size w1 (w1.alloc (.cells #[giveV cb, .int .i64 0, .int .u8 0, .int .i64 0] 89)) := (Below.refl _ _).alloc (Nat.le_refl _) _
  have hf : FP (w1.alloc (.cells #[giveV cb, .int .i64 0, .int .u8 0, .int .i64 0] 89)) w1.heap.size 89 (ptBase (Array.replicate 4 .nilFunc) 0 ⟨0, 0⟩) 0 cb n z 0 :=
    ⟨Blk.new w1 _ _, ⟨by decide, by decide, by decide⟩, v, HC.out.alloc _, HS.out.keep k⟩
  exact ⟨w1.heap.size, cb, rfl, sz, h2, ⟨hf.congr (by omega) (fun i _ => by rw [Nat.zero_add]) (by rfl), by decide, ⟨by decide, by decide⟩⟩, h6.trans (k.mono sz)⟩
section
variable (w : World)
theorem pselect_nil : Calls Tryz.prog 50 #[.pointer none] w fun e w' => e = .returned (.int .u8 0) ∧ w = w' := by
  go_enter Tryz.func50, Tryz.ntmps50
  go_wp2
  go_ret
  exact ⟨rfl, rfl⟩
theorem ptaken_nil : Calls Tryz.prog 56 #[.pointer none] w fun e w' => e = .returned (.int .i64 0) ∧ w = w' := by
  go_enter Tryz.func56, Tryz.ntmps56
  go_wp2
  go_ret
  exact ⟨rfl, rfl⟩
theorem pread_nil : Calls Tryz.prog 73 #[.pointer none] w fun e w' => e = .returned (.int .u8 176) ∧ w = w' := by
  go_enter Tryz.func73, Tryz.ntmps73
  go_wp2
  go_ret
  exact ⟨rfl, rfl⟩
theorem pclone_nil : Calls Tryz.prog 41 #[.pointer none] w fun e w' => e = .returned (.pointer none) ∧ w = w' := by
  go_enter Tryz.func41, Tryz.ntmps41
  go_wp2
  go_ret
  exact ⟨rfl, rfl⟩
theorem pwrite_nil (b : Int) : Calls Tryz.prog 68 #[.pointer none, .int .u8 b] w fun e w' => e = .returned (.tuple #[]) ∧ w = w' := by
  go_enter Tryz.func68, Tryz.ntmps68
  go_wp2
  first | go_end0 | refine bodyPost_ret (results_none rfl _ _ _) rfl ?_
  exact ⟨rfl, rfl⟩
end
section
variable {w : World} {g : Nat} {T : TypeId} {cs : Array Value} {o cb n : Nat} {z : Nat → Int} {q : Nat} {s : Pt}
def PCloneR (g : Nat) (T : TypeId) (cs : Array Value) (o cb n : Nat) (z : Nat → Int) (q : Nat) (s : Pt) (w : World) (e : Ending) (w' : World) : Prop :=
  ∃ g2 cb2, e = .returned (.pointer (some ⟨g2, 0, none⟩)) ∧ w.heap.size ≤ g2 ∧ w.heap.size ≤ cb2 ∧ P0 w' g2 cb2 n z q s ∧ PT w' g T cs o cb n z q s ∧ Kp [cb] w w'
set_option maxHeartbeats 2000000 in
theorem pclone_any (h : PT w g T cs o cb n z q s) (hn : n ≤ 140737488355328) :
    Calls Tryz.prog 41 #[.pointer (some ⟨g, o, none⟩)] w (PCloneR g T cs o cb n z q s w) := by
  obtain ⟨c0, c1, c2, c3⟩ := h.cells
  unfold giveV at c0
  have hlt := h.lt
  have hltc := h.ltc
  have H := Lib.hid h
  clear h
  go_enter Tryz.func41, Tryz.ntmps41
  go_wp2_with fail
  have hb := Blk.new w 89 #[giveV cb, .int .i64 q, .int .u8 s.l, .int .i64 s.p]
  have kA : Below w.heap.size w (w.alloc (.cells #[giveV cb, .int .i64 q, .int .u8 s.l, .int .i64 s.p] 89)) := (Below.refl _ _).alloc (Nat.le_refl _) _
  have H1 := Lib.hid (H.out.keep kA)
  have HB1 := Lib.hid hb
  have KA := Lib.hid kA
  have sz1 : w.heap.size < (w.alloc (.cells #[giveV cb, .int .i64 q, .int .u8 s.l, .int .i64 s.p] 89)).heap.size := by simp
  clear hb kA H c0 c1 c2 c3
  unfold giveV at *
  generalize hw1 : w.alloc _ = w1 at *
  clear hw1
  refine (fpclone_any H1.out.1 (by omega)).mono ?_
  rintro e w2 ⟨g2, cb2, rfl, p1, p2, p3, p4, p5⟩
  have hcb : w.heap.size ≠ cb := by omega
  have hb2 := HB1.out.kp p5 (by simpa using hcb)
  have d0 := p3.cells.1
  have d1 : w2.cell? ⟨g2, 1, none⟩ = some (.int .i64 q) := p3.cells.2
  unfold giveV at d0
  have e0 := hb2.cell 0
  have e1 := hb2.cell 1
  have f0 := hb2.frozen 0
  have f1 := hb2.frozen 1
  have HB2 := Lib.hid hb2
  have P3 := Lib.hid p3
  have P4 := Lib.hid p4
  have P5 := Lib.hid p5
  clear hb2 p3 p4 p5
  go_wp2_with fail
  go_ret
  have q1 := (HB2.out.set_ 0 (giveV cb2)).set_ 1 (.int .i64 q)
  have kp : Kp [w.heap.size] w2 ((w2.setCell ⟨w.heap.size, 0, none⟩ (giveV cb2)).setCell ⟨w.heap.size, 1, none⟩ (.int .i64 q)) := ((Kp.refl _ _).setCell (.inl (by simp)) _).setCell (.inl (by simp)) _
  have hn : ∀ x ∈ [w.heap.size], ∃ t cs, Blk w2 x t cs ∧ 5 ≠ t := fun x hx => by
    obtain rfl : x = w.heap.size := by simpa using hx
    exact ⟨_, _, HB2.out, by decide⟩
  obtain ⟨_, _, v, hc, hs⟩ := P3.out
  refine ⟨w.heap.size, cb2, rfl, Nat.le_refl _, by omega, ⟨⟨q1, ⟨by rw [ptBase_size]; decide, by decide, by decide⟩, v, hc.kp kp (by simp; omega), hs.kp kp hn⟩, by decide, H1.out.2.2⟩, ⟨P4.out.kp kp hn (by simp; omega) (by simp; omega), H1.out.2⟩, ?_⟩
  exact ((Kp.of_below KA.out).trans P5.out (by simp)).trans kp (fun x hx => .inr (by
    obtain rfl : x = w.heap.size := by simpa using hx
    exact Nat.le_refl _))
end
end Go.Proofs.YtcnjekballnncaaGreat
namespace Go.Proofs.YtcnjekballnncaaGreat
open Go.RowKit
set_option linter.unusedVariables false
/-- A buffer that has b. -/
def LT (w : World) (g : Nat) (b : Int) : Prop := Blk w g 78 #[.int .u8 b]
theorem LT.set {w : World} {g : Nat} {b : Int} (h : LT w g b) (u : Int) : LT (w.setCell ⟨g, 0, none⟩ (.int .u8 u)) g u := Blk.set_ h 0 _
/-- What is read: the bits of the mask are those of b, all others stay. -/
def mixI (v m b : Int) : Int := bits .or .u8 (bits .andNot .u8 v m) (bits .and .u8 b m)
theorem lnew_any (b : Int) (w : World) :
    Calls Tryz.prog 25 #[.int .u8 b] w fun e w' => e = .returned (.pointer (some ⟨w.heap.size, 0, none⟩)) ∧ w' = w.alloc (.cells #[.int .u8 b] 78) := by
  go_enter Tryz.func25, Tryz.ntmps25
  go_wp2
  go_ret
  exact ⟨rfl, rfl⟩
theorem value_nil (w : World) :
    Calls Tryz.prog 39 #[.pointer none] w fun e w' => e = .returned (.int .u8 0) ∧ w = w' := by
  go_enter Tryz.func39, Tryz.ntmps39
  go_wp2
  go_ret
  exact ⟨rfl, rfl⟩
theorem lwrite_any {w : World} {g : Nat} {b : Int} (h : LT w g b) (u : Int) :
    Calls Tryz.prog 70 #[.pointer (some ⟨g, 0, none⟩), .int .u8 u] w fun e w' => e = .returned (.tuple #[]) ∧ w' = w.setCell ⟨g, 0, none⟩ (.int .u8 u) := by
  have c0 : w.cell? ⟨g, 0, none⟩ = some (.int .u8 b) := Blk.cell h 0
  have f0 := Blk.frozen h 0
  clear h
  go_enter Tryz.func70, Tryz.ntmps70
  go_wp2
  go_end0
  exact ⟨rfl, rfl⟩
theorem lwrite_nil (u : Int) (w : World) :
    Calls Tryz.prog 70 #[.pointer none, .int .u8 u] w fun e w' => e = .returned (.tuple #[]) ∧ w = w' := by
  go_enter Tryz.func70, Tryz.ntmps70
  go_wp2
  go_end0
  exact ⟨rfl, rfl⟩
def LReadR (g : Nat) (v : Int) (w : World) (e : Ending) (w' : World) : Prop := e = .returned (.int .u8 v) ∧ LT w' g v ∧ Kp [g] w w'
theorem lread_nil (m b : Int) (w : World) :
    Calls Tryz.prog 72 #[.pointer none, .int .u8 m, .int .u8 b] w fun e w' => e = .returned (.int .u8 (mixI 0 m b)) ∧ w = w' := by
  go_enter Tryz.func72, Tryz.ntmps72
  go_wp2_with fail
  refine (value_nil _).mono ?_
  rintro e w' ⟨rfl, rfl⟩
  go_wp2_with fail
  refine (lwrite_nil _ _).mono ?_
  rintro e w' ⟨rfl, rfl⟩
  go_wp2
  go_ret
  exact ⟨rfl, rfl⟩
end Go.Proofs.YtcnjekballnncaaGreat
