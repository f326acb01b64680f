/-
  Texts of these proofs, one behind the other: Bh2, C3, Ram5.
-/
import Derived.Test.YtleofglnlfpoeaaGreatKBP31
import Derived.Test.YtleofglnlfpoeaaGreatKBP23
import Derived.Test.YtleofglnlfpoeaaGreatKBP02
import Derived.BigRegion
import Derived.RegionTactic
import Derived.Test.YtleofglnlfpoeaaGreatKBP26
import Derived.Deep.QuietTactic
import Derived.BigQuiet
import Derived.LoopTactic
namespace Go.Proofs.YtleofglnlfpoeaaGreat
open Go.RowKit
set_option linter.unusedVariables false
set_option linter.unusedSimpArgs false
set_option maxRecDepth 100000
/-- A page and the reference's, alike, made since W. -/
structure HX (W w : World) (g : Nat) (d : Hd) (b : Hb) (r : Nat) (J : Rr) (Z : Rz) (x : Hp) : Prop where
  hp : HP w g d b x
  rh : RHp w r d J Z x
  bw : Below W.heap.size W w
  lo : (∀ y ∈ [g, b.v, b.c, b.p], W.heap.size ≤ y) ∧ ∀ y ∈ J.all r, W.heap.size ≤ y
/-- What they were made of stood in W. -/
structure HC (W : World) (d : Hd) (Z : Rz) : Prop where
  rw : Rws W d Z
  sm : d.np ≤ 10000 ∧ d.nv ≤ 10000 ∧ d.nc ≤ 10000
def hxL (g : Nat) (b : Hb) (r : Nat) (J : Rr) : List Nat := [g, b.v, b.c, b.p] ++ J.all r
section
variable {W w w1 w2 w' : World} {g : Nat} {d : Hd} {b : Hb} {r : Nat} {J : Rr} {Z : Rz} {x y : Hp} {L : List Nat}
theorem RHp.notin (h : RHp w r d J Z x) {u : Nat} {T : TypeId} {cs : Array Value} (hb : Blk w u T cs) (hT : T = 99 ∨ T = 22 ∨ T = 135) : u ∉ J.all r := by
  intro hy
  simp only [Rr.all, List.mem_cons, List.not_mem_nil, or_false] at hy
  rcases hT with rfl | rfl | rfl
  all_goals
    rcases hy with rfl | rfl | rfl | rfl | rfl | rfl | rfl
    · exact hb.ne_ h.pg (by decide) rfl
    · exact hb.ne_ h.tm.1 (by decide) rfl
    · exact hb.ne_ h.q.1 (by decide) rfl
    · exact hb.ne_ h.pt.1 (by decide) rfl
    · exact hb.ne_ h.v (by decide) rfl
    · exact hb.ne_ h.c (by decide) rfl
    · exact hb.ne_ h.l (by decide) rfl
theorem RHp.typed (h : RHp w r d J Z x) : ∀ y ∈ J.all r, ∃ t cs, Blk w y t cs ∧ 5 ≠ t ∧ 154 ≠ t := by
  intro y hy
  simp only [Rr.all, List.mem_cons, List.not_mem_nil, or_false] at hy
  rcases hy with rfl | rfl | rfl | rfl | rfl | rfl | rfl
  · exact ⟨_, _, h.pg, by decide, by decide⟩
  · exact ⟨_, _, h.tm.1, by decide, by decide⟩
  · exact ⟨_, _, h.q.1, by decide, by decide⟩
  · exact ⟨_, _, h.pt.1, by decide, by decide⟩
  · exact ⟨_, _, h.v, by decide, by decide⟩
  · exact ⟨_, _, h.c, by decide, by decide⟩
  · exact ⟨_, _, h.l, by decide, by decide⟩
theorem HP.boxes (h : HP w g d b x) : ∀ y ∈ [g, b.v, b.c, b.p], ∃ T cs, Blk w y T cs ∧ (T = 99 ∨ T = 22 ∨ T = 135) := by
  obtain ⟨A, c, hb, ho⟩ := h
  intro y hy
  simp only [List.mem_cons, List.not_mem_nil, or_false] at hy
  rcases hy with rfl | rfl | rfl | rfl
  · exact ⟨_, _, hb, .inl rfl⟩
  · obtain ⟨v, h1, _⟩ := ho.v; exact ⟨_, _, h1, .inr (.inl rfl)⟩
  · obtain ⟨v, h1, _⟩ := ho.c; exact ⟨_, _, h1, .inr (.inl rfl)⟩
  · obtain ⟨v, h1, _⟩ := ho.p; exact ⟨_, _, h1, .inr (.inl rfl)⟩
theorem HX.apart (h : HX W w g d b r J Z x) : ∀ y ∈ [g, b.v, b.c, b.p], y ∉ J.all r := fun y hy => by
  obtain ⟨T, cs, hb, hT⟩ := h.hp.boxes y hy
  exact h.rh.notin hb hT
/-- The reference's page behind a call on the page. -/
theorem HX.ref1 (h : HX W w g d b r J Z x) (hL : ∀ z ∈ L, z ∈ [g, b.v, b.c, b.p]) (k : Kp L w w1) : RHp w1 r d J Z x := by
  have hn : ∀ u ∈ J.all r, u ∉ L := fun u hu hl => h.apart u (hL u hl) hu
  exact h.rh.kp k ⟨hn _ (by simp [Rr.all]), hn _ (by simp [Rr.all]), hn _ (by simp [Rr.all]), hn _ (by simp [Rr.all]), hn _ (by simp [Rr.all]), hn _ (by simp [Rr.all]), hn _ (by simp [Rr.all])⟩
theorem HX.bw1 (h : HX W w g d b r J Z x) (hL : ∀ z ∈ L, z ∈ [g, b.v, b.c, b.p]) (k : Kp L w w1) : Below W.heap.size W w1 := k.onto h.bw h.bw.size (fun z hz => h.lo.1 z (hL z hz))
theorem HX.two (h : HX W w g d b r J Z x) (h1 : HP w1 g d b y) (hL : ∀ z ∈ L, z ∈ [g, b.v, b.c, b.p]) (k1 : Kp L w w1) (h2 : RHp w2 r d J Z y) (k2 : Kp (J.all r) w1 w2) : HX W w2 g d b r J Z y ∧ Kp (hxL g b r J) w w2 := by
  have r1 := h.ref1 hL k1
  have hb := h.bw1 hL k1
  refine ⟨⟨h1.kp k2 r1.typed ⟨h.apart _ (by simp), h.apart _ (by simp), h.apart _ (by simp), h.apart _ (by simp)⟩, h2, k2.onto hb hb.size h.lo.2, h.lo⟩, ?_⟩
  exact (k1.mono (M := hxL g b r J) (fun z hz => List.mem_append_left _ (hL z hz))).trans (k2.mono (M := hxL g b r J) (fun z hz => List.mem_append_right _ hz)) (fun z hz => .inl hz)
theorem HX.on (h : HX W w g d b r J Z x) (k : Below w.heap.size w w') : HX W w' g d b r J Z x := ⟨h.hp.keep k, h.rh.keep k, h.bw.trans (k.mono h.bw.size), h.lo⟩
theorem HX.kp0 (h : HX W w g d b r J Z x) (k : Kp [] w w') : HX W w' g d b r J Z x := ⟨h.hp.kp0 k, h.rh.kp0 k, k.onto h.bw h.bw.size (by simp), h.lo⟩
theorem HC.at_ (C : HC W d Z) (hb : Below W.heap.size W w) : Rws w d Z := C.rw.keep hb
theorem HC.pb (C : HC W d Z) (x : Hp) : 0 ≤ peekI (d.np - x.tp) (fun i => d.zp (x.tp + i)) 0 ∧ peekI (d.np - x.tp) (fun i => d.zp (x.tp + i)) 0 ≤ 255 := by
  unfold peekI
  split
  · rename_i hh
    have hi : x.tp + (0 : Int).toNat < d.np := by simp at hh ⊢; omega
    obtain ⟨_, _, _, _, hw⟩ := C.rw.p _ hi
    exact bounds_u8 hw
  · omega
theorem HC.off (C : HC W d Z) (h : HX W w g d b r J Z x) : EOff Z d.n J := fun ad e hn => by
  obtain ⟨ad2, e2, hl, _⟩ := C.rw.e 0 hn
  rw [e] at e2
  cases e2
  have := h.lo.2 J.l (by simp [Rr.all])
  simp; omega
end
/-- How far both went, and how many bytes were taken. -/
def Hp.far (x : Hp) (c : Nat) : Prop := x.lim c ∧ x.now ≤ 1000000 * (c : Int)
section
variable {x : Hp} {d : Hd} {c : Nat}
end
end Go.Proofs.YtleofglnlfpoeaaGreat
namespace Go.Proofs.YtleofglnlfpoeaaGreat
open Go.RowKit
set_option maxHeartbeats 2000000 in
theorem copy_any {w : World} {g : Nat} {now cyc : Int} {fast asked next : Bool} (h : Blk w g 142 (rk now cyc fast asked next)) :
    Calls Tryz.prog 58 #[.pointer (some ⟨g, 0, none⟩)] w fun e w' => e = .returned (.pointer (some ⟨w.heap.size, 0, none⟩)) ∧ (Blk w' w.heap.size 142 (rk now cyc fast asked next) ∧ Below w.heap.size w w') := by
  obtain ⟨c0, c1, c2, c3, c4, hf⟩ := rk_cells h
  go_enter Tryz.func58, Tryz.ntmps58
  go_wp2
  go_region
  all_goals
    go_wp2
    go_ret
    exact ⟨rfl, Blk.new w 142 _, ((Below.refl _ _).alloc (Nat.le_refl _) _).drew⟩
theorem at_new (n : Int) (f : Bool) (w : World) : Calls Tryz.prog 82 #[.int .i64 n, .bool f] w fun e w' => e = .returned (.pointer (some ⟨w.heap.size, 0, none⟩)) ∧ (Blk w' w.heap.size 119 (ck (heldI n) 0 f false false) ∧ Below w.heap.size w w') :=
  (at_any n f w).mono fun _ _ ⟨a, b⟩ => ⟨a, by rw [b]; exact ⟨Blk.new w 119 _, (Below.refl _ _).alloc (Nat.le_refl _) _⟩⟩
theorem rat_new (n : Int) (f : Bool) (w : World) : Calls Tryz.prog 43 #[.int .i64 n, .bool f] w fun e w' => e = .returned (.pointer (some ⟨w.heap.size, 0, none⟩)) ∧ (Blk w' w.heap.size 142 (rk (heldI n) 0 f false false) ∧ Below w.heap.size w w') :=
  (rat_any n f w).mono fun _ _ ⟨a, b⟩ => ⟨a, by rw [b]; exact ⟨Blk.new w 142 _, (Below.refl _ _).alloc (Nat.le_refl _) _⟩⟩
theorem cknew_any (w : World) : Calls Tryz.prog 40 #[] w fun e w' => e = .returned (.pointer (some ⟨w.heap.size, 0, none⟩)) ∧ (Blk w' w.heap.size 119 (ck 0 0 false false false) ∧ Below w.heap.size w w') := by
  go_enter Tryz.func40, Tryz.ntmps40
  go_wp2_with (go_at_call 82; refine (at_new _ _ _).mono ?_; rintro e w1 ⟨rfl, h1, h2⟩)
  go_ret
  exact ⟨rfl, h1, h2⟩
end Go.Proofs.YtleofglnlfpoeaaGreat
namespace Go.Proofs.YtleofglnlfpoeaaGreat
open Go.RowKit
set_option linter.unusedVariables false
set_option linter.unusedSimpArgs false
set_option maxRecDepth 100000
/-- Two memories' bytes, block by block. -/
def RA (w : World) (v : Value) (f : Nat → Int) : Prop := (v = .pointer none ∧ f = fun _ => 0) ∨ ∃ g mb, v = .pointer (some ⟨g, 0, none⟩) ∧ RD w g mb f
theorem RA.keep {w w' : World} {v : Value} {f : Nat → Int} (h : RA w v f) (k : Below w.heap.size w w') : RA w' v f := by
  rcases h with h | ⟨g, mb, e, h⟩
  · exact .inl h
  · exact .inr ⟨g, mb, e, h.keep k⟩
theorem block_ra {w : World} {v : Value} {f : Nat → Int} (h : RA w v f) (k : Nat) (hk : k < 128) :
    Calls Tryz.prog 86 #[v, .int .i64 k] w fun e w' => e = .returned (.agg (bk f k)) ∧ Below w.heap.size w w' := by
  rcases h with ⟨rfl, rfl⟩ | ⟨g, mb, rfl, h⟩
  · exact block_nil k w
  · exact block_any h k hk
end Go.Proofs.YtleofglnlfpoeaaGreat
