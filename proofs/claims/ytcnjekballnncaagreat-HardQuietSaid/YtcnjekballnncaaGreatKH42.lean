/-
  Texts of these proofs, one behind the other: Hj2, Hj3.
-/
import Derived.Test.YtcnjekballnncaaGreatKH41
import Derived.Deep.Cut
import Derived.Deep.CutRange
import Derived.Deep.CutBlock
import Derived.Deep.RegionHeld3
namespace Go.Proofs.YtcnjekballnncaaGreat
open Go.RowKit
set_option linter.unusedVariables false
set_option linter.unusedSimpArgs false
set_option maxRecDepth 100000
/-- A page and the reference's, alike, made since W. -/
structure HX (W w : World) (g : Nat) (d : Hd) (b : Hb) (r : Nat) (J : Rr) (Z : Rz) (x : Hp) : Prop where
  hp : HP w g d b x
  rh : RHp w r d J Z x
  bw : Below W.heap.size W w
  lo : (∀ y ∈ [g, b.v, b.c, b.p], W.heap.size ≤ y) ∧ ∀ y ∈ J.all r, W.heap.size ≤ y
/-- What they were made of stood in W. -/
structure HC (W : World) (d : Hd) (Z : Rz) : Prop where
  rw : Rws W d Z
  sm : d.np ≤ 10000 ∧ d.nv ≤ 10000 ∧ d.nc ≤ 10000
def hxL (g : Nat) (b : Hb) (r : Nat) (J : Rr) : List Nat := [g, b.v, b.c, b.p] ++ J.all r
section
variable {W w w1 w2 w' : World} {g : Nat} {d : Hd} {b : Hb} {r : Nat} {J : Rr} {Z : Rz} {x y : Hp} {L : List Nat}
theorem RHp.notin (h : RHp w r d J Z x) {u : Nat} {T : TypeId} {cs : Array Value} (hb : Blk w u T cs) (hT : T = 95 ∨ T = 22 ∨ T = 65) : u ∉ J.all r := by
  intro hy
  simp only [Rr.all, List.mem_cons, List.not_mem_nil, or_false] at hy
  rcases hT with rfl | rfl | rfl
  all_goals
    rcases hy with rfl | rfl | rfl | rfl | rfl | rfl | rfl
    · exact hb.ne_ h.pg (by decide) rfl
    · exact hb.ne_ h.tm.1 (by decide) rfl
    · exact hb.ne_ h.q.1 (by decide) rfl
    · exact hb.ne_ h.pt.1 (by decide) rfl
    · exact hb.ne_ h.v (by decide) rfl
    · exact hb.ne_ h.c (by decide) rfl
    · exact hb.ne_ h.l (by decide) rfl
theorem RHp.typed (h : RHp w r d J Z x) : ∀ y ∈ J.all r, ∃ t cs, Blk w y t cs ∧ 5 ≠ t ∧ 129 ≠ t := by
  intro y hy
  simp only [Rr.all, List.mem_cons, List.not_mem_nil, or_false] at hy
  rcases hy with rfl | rfl | rfl | rfl | rfl | rfl | rfl
  · exact ⟨_, _, h.pg, by decide, by decide⟩
  · exact ⟨_, _, h.tm.1, by decide, by decide⟩
  · exact ⟨_, _, h.q.1, by decide, by decide⟩
  · exact ⟨_, _, h.pt.1, by decide, by decide⟩
  · exact ⟨_, _, h.v, by decide, by decide⟩
  · exact ⟨_, _, h.c, by decide, by decide⟩
  · exact ⟨_, _, h.l, by decide, by decide⟩
theorem HP.boxes (h : HP w g d b x) : ∀ y ∈ [g, b.v, b.c, b.p], ∃ T cs, Blk w y T cs ∧ (T = 95 ∨ T = 22 ∨ T = 65) := by
  obtain ⟨A, c, hb, ho⟩ := h
  intro y hy
  simp only [List.mem_cons, List.not_mem_nil, or_false] at hy
  rcases hy with rfl | rfl | rfl | rfl
  · exact ⟨_, _, hb, .inl rfl⟩
  · obtain ⟨v, h1, _⟩ := ho.v; exact ⟨_, _, h1, .inr (.inl rfl)⟩
  · obtain ⟨v, h1, _⟩ := ho.c; exact ⟨_, _, h1, .inr (.inl rfl)⟩
  · obtain ⟨v, h1, _⟩ := ho.p; exact ⟨_, _, h1, .inr (.inl rfl)⟩
theorem HX.apart (h : HX W w g d b r J Z x) : ∀ y ∈ [g, b.v, b.c, b.p], y ∉ J.all r := fun y hy => by
  obtain ⟨T, cs, hb, hT⟩ := h.hp.boxes y hy
  exact h.rh.notin hb hT
/-- The reference's page behind a call on the page. -/
theorem HX.ref1 (h : HX W w g d b r J Z x) (hL : ∀ z ∈ L, z ∈ [g, b.v, b.c, b.p]) (k : Kp L w w1) : RHp w1 r d J Z x := by
  have hn : ∀ u ∈ J.all r, u ∉ L := fun u hu hl => h.apart u (hL u hl) hu
  exact h.rh.kp k ⟨hn _ (by simp [Rr.all]), hn _ (by simp [Rr.all]), hn _ (by simp [Rr.all]), hn _ (by simp [Rr.all]), hn _ (by simp [Rr.all]), hn _ (by simp [Rr.all]), hn _ (by simp [Rr.all])⟩
theorem HX.bw1 (h : HX W w g d b r J Z x) (hL : ∀ z ∈ L, z ∈ [g, b.v, b.c, b.p]) (k : Kp L w w1) : Below W.heap.size W w1 := k.onto h.bw h.bw.size (fun z hz => h.lo.1 z (hL z hz))
theorem HX.two (h : HX W w g d b r J Z x) (h1 : HP w1 g d b y) (hL : ∀ z ∈ L, z ∈ [g, b.v, b.c, b.p]) (k1 : Kp L w w1) (h2 : RHp w2 r d J Z y) (k2 : Kp (J.all r) w1 w2) : HX W w2 g d b r J Z y ∧ Kp (hxL g b r J) w w2 := by
  have r1 := h.ref1 hL k1
  have hb := h.bw1 hL k1
  refine ⟨⟨h1.kp k2 r1.typed ⟨h.apart _ (by simp), h.apart _ (by simp), h.apart _ (by simp), h.apart _ (by simp)⟩, h2, k2.onto hb hb.size h.lo.2, h.lo⟩, ?_⟩
  exact (k1.mono (M := hxL g b r J) (fun z hz => List.mem_append_left _ (hL z hz))).trans (k2.mono (M := hxL g b r J) (fun z hz => List.mem_append_right _ hz)) (fun z hz => .inl hz)
theorem HX.on (h : HX W w g d b r J Z x) (k : Below w.heap.size w w') : HX W w' g d b r J Z x := ⟨h.hp.keep k, h.rh.keep k, h.bw.trans (k.mono h.bw.size), h.lo⟩
theorem HX.kp0 (h : HX W w g d b r J Z x) (k : Kp [] w w') : HX W w' g d b r J Z x := ⟨h.hp.kp0 k, h.rh.kp0 k, k.onto h.bw h.bw.size (by simp), h.lo⟩
theorem HC.at_ (C : HC W d Z) (hb : Below W.heap.size W w) : Rws w d Z := C.rw.keep hb
theorem HC.pb (C : HC W d Z) (x : Hp) : 0 ≤ peekI (d.np - x.tp) (fun i => d.zp (x.tp + i)) 0 ∧ peekI (d.np - x.tp) (fun i => d.zp (x.tp + i)) 0 ≤ 255 := by
  unfold peekI
  split
  · rename_i hh
    have hi : x.tp + (0 : Int).toNat < d.np := by simp at hh ⊢; omega
    obtain ⟨_, _, _, _, hw⟩ := C.rw.p _ hi
    exact bounds_u8 hw
  · omega
theorem HC.off (C : HC W d Z) (h : HX W w g d b r J Z x) : EOff Z d.n J := fun ad e hn => by
  obtain ⟨ad2, e2, hl, _⟩ := C.rw.e 0 hn
  rw [e] at e2
  cases e2
  have := h.lo.2 J.l (by simp [Rr.all])
  simp; omega
end
/-- How far both went, and how many bytes were taken. -/
def Hp.far (x : Hp) (c : Nat) : Prop := x.lim c ∧ x.now ≤ 1000000 * (c : Int)
section
variable {x : Hp} {d : Hd} {c : Nat}
theorem Hp.far_mono (h : x.far c) {c' : Nat} (hc : c ≤ c') : x.far c' := by
  obtain ⟨⟨a1, a2, a3⟩, a4⟩ := h
  exact ⟨⟨by omega, by omega, by omega⟩, by omega⟩
theorem Hp.far_to (h : x.far c) {n : Int} (n0 : 0 ≤ n) (n1 : n ≤ 1000000) : (x.to d (x.now + n)).far (c + 1) := by
  obtain ⟨⟨a1, a2, a3⟩, a4⟩ := h
  unfold Hp.to
  split
  · exact ⟨⟨by omega, by omega, by omega⟩, by omega⟩
  · exact ⟨⟨by dsimp only; omega, by dsimp only; omega, by dsimp only; omega⟩, by dsimp only; omega⟩
theorem Hp.far_rd (h : x.far c) (k r : Int) : (x.rd d k r).far (c + 1) := by
  obtain ⟨⟨a1, a2, a3⟩, a4⟩ := h
  unfold Hp.rd
  repeat' split
  all_goals exact ⟨⟨by first | omega | (dsimp only; omega) | (dsimp only; split <;> omega), by first | omega | (dsimp only; omega) | (dsimp only; split <;> omega), by first | omega | (dsimp only; omega) | (dsimp only; split <;> omega)⟩, by first | omega | (dsimp only; omega)⟩
theorem Hp.far_wr (h : x.far c) (k r u : Int) : (x.wr k r u).far (c + 1) := by
  obtain ⟨⟨a1, a2, a3⟩, a4⟩ := h
  unfold Hp.wr
  repeat' split
  all_goals exact ⟨⟨by first | omega | (dsimp only; omega), by first | omega | (dsimp only; omega), by first | omega | (dsimp only; omega)⟩, by first | omega | (dsimp only; omega)⟩
theorem Hp.far_en (h : x.far c) (k : Int) : (x.en k).far (c + 1) := by
  obtain ⟨⟨a1, a2, a3⟩, a4⟩ := h
  unfold Hp.en
  repeat' split
  all_goals exact ⟨⟨by first | omega | (dsimp only; omega), by first | omega | (dsimp only; omega), by first | omega | (dsimp only; omega)⟩, by first | omega | (dsimp only; omega)⟩
theorem Hp.new_far : Hp.new.far 0 := ⟨⟨Nat.le_refl _, Nat.le_refl _, Nat.le_refl _⟩, by show (0 : Int) ≤ _; omega⟩
end
end Go.Proofs.YtcnjekballnncaaGreat
namespace Go.Proofs.YtcnjekballnncaaGreat
open Go.RowKit
set_option linter.unusedVariables false
set_option linter.unusedSimpArgs false
set_option maxRecDepth 100000
def HXR (W : World) (g : Nat) (d : Hd) (b : Hb) (r : Nat) (J : Rr) (Z : Rz) (c : Nat) (w : World) (e : Ending) (w' : World) : Prop :=
  e = .returned (.bool true) ∧ (∃ y, HX W w' g d b r J Z y ∧ y.far c) ∧ Kp (hxL g b r J) w w'
section
variable {w : World} {g : Nat} {d : Hd} {b : Hb} {x y : Hp} {r : Nat} {J : Rr} {Z : Rz}
theorem hstatus_v (h : HP w g d b x) {v : Array Value} (e : stC x = v) : Calls Tryz.prog 13 #[.pointer (some ⟨g, 0, none⟩)] w fun e w' => e = .returned (.agg v) ∧ Below w.heap.size w w' := e ▸ hstatus_any h
theorem rhstatus_v (h : RHp w r d J Z x) {v : Array Value} (e : stC x = v) : Calls Tryz.prog 14 #[.pointer (some ⟨r, 0, none⟩)] w fun e w' => e = .returned (.agg v) ∧ Below w.heap.size w w' := e ▸ rhstatus_any h
theorem hnow_v (h : HP w g d b x) {v : Int} (e : x.now = v) : Calls Tryz.prog 15 #[.pointer (some ⟨g, 0, none⟩)] w fun e w' => e = .returned (.int .i64 v) ∧ w = w' := e ▸ hnow_any h
theorem rhchoose_v (h : RHp w r d J Z x) (hok : x.ok d) (hG : Good d.n d.es) (RE : ERow w Z.A d.n d.es) {m : Bool} {v : Int} (e : x.ch d m = v) :
    Calls Tryz.prog 36 #[.pointer (some ⟨r, 0, none⟩), .bool m] w fun e w' => e = .returned (.int .u8 v) ∧ Below w.heap.size w w' := e ▸ rhchoose_any h hok hG RE m
end
set_option maxHeartbeats 32000000 in
theorem hplay_any {W w : World} {g : Nat} {d : Hd} {b : Hb} {r : Nat} {J : Rr} {Z : Rz} {x : Hp} {m cm c0 : Nat} {A : Option Addr} {qs : Nat → Nat → Value}
    (h : HX W w g d b r J Z x) (C : HC W d Z) (Q : FRow W 4 A m qs) (F : StepsOk m qs) (N : NearT m qs) (hfar : x.far c0) (hc0 : c0 ≤ 1000) :
    Calls Tryz.prog 10 #[.pointer (some ⟨g, 0, none⟩), .pointer (some ⟨r, 0, none⟩), .slice A m cm] w (HXR W g d b r J Z (c0 + 60) w) := by
  have H := Lib.hid h
  have HC := Lib.hid C
  have HQ := Lib.hid Q
  have HF := Lib.hid F
  have HN := Lib.hid N.2
  have hm := N.1
  have HFAR := Lib.hid hfar
  clear h C Q F N hfar
  go_enter Tryz.func10, Tryz.ntmps10
  go_wp2_with fail
  go_loopw [7] (fun i wr => ∃ k : Nat, k ≤ m ∧ i = .int .i64 k ∧ (∃ y, HX W wr g d b r J Z y ∧ y.far (c0 + k)) ∧ Kp (hxL g b r J) w wr) (fun i _ => m - (intOf i).toNat)
  case atStart => exact ⟨0, Nat.zero_le _, rfl, ⟨x, H.out, HFAR.out⟩, Kp.refl _ _⟩
  case round =>
    obtain ⟨k, hk, rfl, ⟨x, hI, hfr⟩, hK⟩ := hrel
    have HI := Lib.hid hI
    have HK := Lib.hid hK
    have HFR := Lib.hid hfr
    clear hI hK hfr H HFAR
    by_cases hlt : k < m
    · obtain ⟨ad, rfl, hl, q0, q1, q2, q3⟩ := fkCells4 (FRow.keep HQ.out HI.out.bw) k hlt
      obtain ⟨kd, e0, w0⟩ := HF.out k hlt 0 _ rfl
      obtain ⟨off, e1, w1⟩ := HF.out k hlt 1 _ rfl
      obtain ⟨u, e2, w2⟩ := HF.out k hlt 2 _ rfl
      obtain ⟨n, e3, w3⟩ := HF.out k hlt 3 _ rfl
      have n2 := HN.out k hlt n e3
      rw [e0] at q0
      rw [e1] at q1
      rw [e2] at q2
      rw [e3] at q3
      obtain ⟨a0, a1⟩ := bounds_u8 w0
      obtain ⟨o0, o1⟩ := bounds_u16 w1
      obtain ⟨u0, u1⟩ := bounds_u8 w2
      obtain ⟨n0, n1⟩ := bounds_u32 w3
      have i0 : (0 : Int) ≤ (k : Int) := by omega
      have i1 : (k : Int) < m := by omega
      have hlim : x.lim 1000000 := (Hp.far_mono HFR.out (c' := 1000000) (by omega)).1
      have hnow : x.now ≤ 1060000000 := by have := HFR.out.2; omega
      have hnow0 : 0 ≤ x.now := HI.out.hp.ok.2.2.2.2.2
      have HLIM := Lib.hid hlim
      clear w0 w1 w2 w3 e0 e1 e2 e3 hlim
      go_upto_block 2 with fail
      have kA : Kp [] wr (wr.alloc (.cells #[.int .u8 kd, .int .u16 off, .int .u8 u, .int .u32 n] 65)) := (Kp.refl _ _).alloc _
      have hb := Blk.new wr 65 #[.int .u8 kd, .int .u16 off, .int .u8 u, .int .u32 n]
      have HI0 := Lib.hid (HI.out.kp0 kA)
      have HB0 := Lib.hid hb
      have HK0 := Lib.hid (HK.out.trans kA (by simp))
      have e0 : (wr.alloc (.cells #[.int .u8 kd, .int .u16 off, .int .u8 u, .int .u32 n] 65)).cell? ⟨wr.heap.size, 0, none⟩ = some (.int .u8 kd) := hb.cell 0
      have e1 : (wr.alloc (.cells #[.int .u8 kd, .int .u16 off, .int .u8 u, .int .u32 n] 65)).cell? ⟨wr.heap.size, 1, none⟩ = some (.int .u16 off) := hb.cell 1
      have e2 : (wr.alloc (.cells #[.int .u8 kd, .int .u16 off, .int .u8 u, .int .u32 n] 65)).cell? ⟨wr.heap.size, 2, none⟩ = some (.int .u8 u) := hb.cell 2
      have e3 : (wr.alloc (.cells #[.int .u8 kd, .int .u16 off, .int .u8 u, .int .u32 n] 65)).cell? ⟨wr.heap.size, 3, none⟩ = some (.int .u32 n) := hb.cell 3
      clear kA hb HI HK q0 q1 q2 q3
      generalize wr.alloc _ = w0 at *
      generalize wr.heap.size = hh at *
      have hk4 : kd % 4 = 0 ∨ kd % 4 = 1 ∨ kd % 4 = 2 ∨ kd % 4 = 3 := by omega
      have hn1 : hh ∉ [g, b.v, b.c, b.p] := fun hy => by
        obtain ⟨T, cs, q, hT⟩ := HI0.out.hp.boxes hh hy
        have q' := HB0.out
        rcases hT with rfl | rfl | rfl
        · exact q'.ne_ q (by decide) rfl
        · exact q'.ne_ q (by decide) rfl
        · have ee : Blk w0 hh _ _ := HB0.out
          simp only [List.mem_cons, List.not_mem_nil, or_false] at hy
          obtain ⟨A', c', pb, po⟩ := HI0.out.hp
          rcases hy with rfl | rfl | rfl | rfl
          · exact q'.ne_ pb (by decide) rfl
          · obtain ⟨v, h1, _⟩ := po.v; exact q'.ne_ h1 (by decide) rfl
          · obtain ⟨v, h1, _⟩ := po.c; exact q'.ne_ h1 (by decide) rfl
          · obtain ⟨v, h1, _⟩ := po.p; exact q'.ne_ h1 (by decide) rfl
      have hn2 : hh ∉ J.all r := HI0.out.rh.notin HB0.out (.inr (.inr rfl))
      have hg1 : hh ∉ [g] := fun hy => hn1 (by simp at hy; simp [hy])
      go_cut [7] from 9 to 106 (fun i wx => i = .int .i64 k ∧ (∃ y, HX W wx g d b r J Z y ∧ y.far (c0 + (k + 1))) ∧ Kp (hxL g b r J) w0 wx)
      case first =>
        have c7 := HI0.out.rh.cells.2.2.2.2.2.2.2
        rcases hk4 with h4 | h4 | h4 | h4
        · clear e0 e1 e2
          obtain ⟨T, hT⟩ : ∃ T, x.now + n = T := ⟨_, rfl⟩
          have lT : T ≤ 9223372036854775807 := by omega
          have HTT := Lib.hid hT
          have hwn : IntKind.i64.wrap n = n := IntWalk.i64_in _ (by omega)
          have hwt : IntKind.i64.wrap (x.now + n) = T := by rw [hT]; exact IntWalk.i64_in _ (by omega)
          clear hT
          have HFT : Hid ((x.to d T).far (c0 + k + 1)) := Lib.hid (by rw [← HTT.out]; exact Hp.far_to HFR.out n0 n2)
          go_wp2_with fail
          refine rg_begin (S := fun w' => w'.cell? ⟨r, 7, none⟩ = some (.int .i64 x.now) ∧ w'.cell? ⟨hh, 3, none⟩ = some (.int .u32 n)) 10 #[false, false, false, false, false, false, false, false, false, false] (by kernel_rfl) (by kernel_rfl) (by kernel_rfl) ?_ (fun hHeld => ?_)
          · exact ⟨c7, e3⟩
          refine rg_take (i := 0) (d := some 34) (l := #[true, false, false, false, false, false, false, false, false, false]) (fuel := 9) (v := ?_) rfl (by kernel_rfl) (by kernel_rfl) (by kernel_rfl) (by kernel_rfl) (by kernel_rfl) (fun _ _ _ h => h) (by kernel_rfl) ?_ (by assumption) ?_
          rotate_left 1
          · (intro wS hSw; (try dsimp only at hSw); go_simp; try with_reducible rfl)
          try simp only [Act.put, List.setIfInBounds_toArray, List.set_cons_zero, List.set_cons_succ]
          refine rg_take (i := 1) (d := some 35) (l := #[true, true, false, false, false, false, false, false, false, false]) (fuel := 8) (v := ?_) rfl (by kernel_rfl) (by kernel_rfl) (by kernel_rfl) (by kernel_rfl) (by kernel_rfl) (fun _ _ _ h => h) (by kernel_rfl) ?_ (by assumption) ?_
          rotate_left 1
          · (intro wS hSw; (try dsimp only at hSw); go_simp; try with_reducible rfl)
          try simp only [Act.put, List.setIfInBounds_toArray, List.set_cons_zero, List.set_cons_succ]
          refine rg_take (i := 2) (d := some 36) (l := #[true, true, true, false, false, false, false, false, false, false]) (fuel := 7) (v := ?_) rfl (by kernel_rfl) (by kernel_rfl) (by kernel_rfl) (by kernel_rfl) (by kernel_rfl) (fun _ _ _ h => h) (by kernel_rfl) ?_ (by assumption) ?_
          rotate_left 1
          · (intro wS hSw; (try dsimp only at hSw); go_simp; try with_reducible rfl)
          try simp only [Act.put, List.setIfInBounds_toArray, List.set_cons_zero, List.set_cons_succ]
          refine rg_take (i := 3) (d := some 37) (l := #[true, true, true, true, false, false, false, false, false, false]) (fuel := 6) (v := ?_) rfl (by kernel_rfl) (by kernel_rfl) (by kernel_rfl) (by kernel_rfl) (by kernel_rfl) (fun _ _ _ h => h) (by kernel_rfl) ?_ (by assumption) ?_
          rotate_left 1
          · (intro wS hSw; (try dsimp only at hSw); go_simp; try with_reducible rfl)
          try simp only [Act.put, List.setIfInBounds_toArray, List.set_cons_zero, List.set_cons_succ]
          refine rg_take (i := 4) (d := some 38) (l := #[true, true, true, true, true, false, false, false, false, false]) (fuel := 5) (v := ?_) rfl (by kernel_rfl) (by kernel_rfl) (by kernel_rfl) (by kernel_rfl) (by kernel_rfl) (fun _ _ _ h => h) (by kernel_rfl) ?_ (by assumption) ?_
          rotate_left 1
          · (intro wS hSw; (try dsimp only at hSw); go_simp; try with_reducible rfl)
          try simp only [Act.put, List.setIfInBounds_toArray, List.set_cons_zero, List.set_cons_succ]
          refine rg_take (i := 5) (d := some 39) (l := #[true, true, true, true, true, true, false, false, false, false]) (fuel := 4) (v := ?_) rfl (by kernel_rfl) (by kernel_rfl) (by kernel_rfl) (by kernel_rfl) (by kernel_rfl) (fun _ _ _ h => h) (by kernel_rfl) ?_ (by assumption) ?_
          rotate_left 1
          · (intro wS hSw; (try dsimp only at hSw); go_simp; try with_reducible rfl)
          try simp only [Act.put, List.setIfInBounds_toArray, List.set_cons_zero, List.set_cons_succ]
          refine rg_take (i := 6) (d := some 40) (l := #[true, true, true, true, true, true, true, false, false, false]) (fuel := 3) (v := ?_) rfl (by kernel_rfl) (by kernel_rfl) (by kernel_rfl) (by kernel_rfl) (by kernel_rfl) (fun _ _ _ h => h) (by kernel_rfl) ?_ (by assumption) ?_
          rotate_left 1
          · (intro wS hSw; (try dsimp only at hSw); go_simp; try with_reducible rfl)
          try simp only [Act.put, List.setIfInBounds_toArray, List.set_cons_zero, List.set_cons_succ]
          refine rg_take (i := 7) (d := some 41) (l := #[true, true, true, true, true, true, true, true, false, false]) (fuel := 2) (v := ?_) rfl (by kernel_rfl) (by kernel_rfl) (by kernel_rfl) (by kernel_rfl) (by kernel_rfl) (fun _ _ _ h => h) (by kernel_rfl) ?_ (by assumption) ?_
          rotate_left 1
          · (intro wS hSw; (try dsimp only at hSw); go_simp; try with_reducible rfl)
          try simp only [Act.put, List.setIfInBounds_toArray, List.set_cons_zero, List.set_cons_succ]
          try rw [hwn]
          refine rg_take (i := 8) (d := some 42) (l := #[true, true, true, true, true, true, true, true, true, false]) (fuel := 1) (v := ?_) rfl (by kernel_rfl) (by kernel_rfl) (by kernel_rfl) (by kernel_rfl) (by kernel_rfl) (fun _ _ _ h => h) (by kernel_rfl) ?_ (by assumption) ?_
          rotate_left 1
          · (intro wS hSw; (try dsimp only at hSw); go_simp; try with_reducible rfl)
          try simp only [Act.put, List.setIfInBounds_toArray, List.set_cons_zero, List.set_cons_succ]
          try rw [hwt]
          refine rg_next (i := 9) (l := #[true, true, true, true, true, true, true, true, true, true]) (fuel := 0) (by kernel_rfl) rfl (by kernel_rfl) (by kernel_rfl) (fun K hK => ?_)
          go_simp
          (go_at_call 16)
          refine (hgo_any (HI0.out.kp0 (Kp.refl _ _).drew).hp T lT).mono ?_
          rintro e w1 ⟨rfl, y1, y2⟩
          replace y2 : Kp [g] w0 w1 := ((Kp.refl [g] w0).drew).trans y2 (by simp)
          have Y1 := Lib.hid y1
          have Y2 := Lib.hid y2
          have R1 := Lib.hid (HI0.out.ref1 (by simp) Y2.out)
          have B1 := Lib.hid (HB0.out.kp Y2.out hg1)
          have BW1 := Lib.hid (HI0.out.bw1 (by simp) Y2.out)
          clear y1 y2 c7 e3
          have c7 := R1.out.cells.2.2.2.2.2.2.2
          have e3 : w1.cell? ⟨hh, 3, none⟩ = some (.int .u32 n) := B1.out.cell 3
          first | (refine hK.out _ _ ?_ (fun hHeld => ?_)) | (go_wp2_with fail; refine hK.out _ _ ?_ (fun hHeld => ?_))
          · (try dsimp only); exact ⟨c7, e3⟩
          clear hK K
          try simp only [Act.put, List.setIfInBounds_toArray, List.set_cons_zero, List.set_cons_succ]
          refine wpAnyH_done (by kernel_rfl) ?_ _
          clear hHeld
          go_wp2_with fail
          refine rg_begin (S := fun w' => w'.cell? ⟨hh, 3, none⟩ = some (.int .u32 n)) 10 #[false, false, false, false, false, false, false, false, false, false] (by kernel_rfl) (by kernel_rfl) (by kernel_rfl) ?_ (fun hHeld => ?_)
          · exact e3
          refine rg_take (i := 0) (d := some 44) (l := #[true, false, false, false, false, false, false, false, false, false]) (fuel := 9) (v := ?_) rfl (by kernel_rfl) (by kernel_rfl) (by kernel_rfl) (by kernel_rfl) (by kernel_rfl) (fun _ _ _ h => h) (by kernel_rfl) ?_ (by assumption) ?_
          rotate_left 1
          · (intro wS hSw; (try dsimp only at hSw); go_simp; try with_reducible rfl)
          try simp only [Act.put, List.setIfInBounds_toArray, List.set_cons_zero, List.set_cons_succ]
          refine rg_take (i := 1) (d := some 45) (l := #[true, true, false, false, false, false, false, false, false, false]) (fuel := 8) (v := ?_) rfl (by kernel_rfl) (by kernel_rfl) (by kernel_rfl) (by kernel_rfl) (by kernel_rfl) (fun _ _ _ h => h) (by kernel_rfl) ?_ (by assumption) ?_
          rotate_left 1
          · (intro wS hSw; (try dsimp only at hSw); go_simp; try with_reducible rfl)
          try simp only [Act.put, List.setIfInBounds_toArray, List.set_cons_zero, List.set_cons_succ]
          refine rg_take (i := 2) (d := some 46) (l := #[true, true, true, false, false, false, false, false, false, false]) (fuel := 7) (v := ?_) rfl (by kernel_rfl) (by kernel_rfl) (by kernel_rfl) (by kernel_rfl) (by kernel_rfl) (fun _ _ _ h => h) (by kernel_rfl) ?_ (by assumption) ?_
          rotate_left 1
          · (intro wS hSw; (try dsimp only at hSw); go_simp; try with_reducible rfl)
          try simp only [Act.put, List.setIfInBounds_toArray, List.set_cons_zero, List.set_cons_succ]
          refine rg_take (i := 3) (d := some 47) (l := #[true, true, true, true, false, false, false, false, false, false]) (fuel := 6) (v := ?_) rfl (by kernel_rfl) (by kernel_rfl) (by kernel_rfl) (by kernel_rfl) (by kernel_rfl) (fun _ _ _ h => h) (by kernel_rfl) ?_ (by assumption) ?_
          rotate_left 1
          · (intro wS hSw; (try dsimp only at hSw); go_simp; try with_reducible rfl)
          try simp only [Act.put, List.setIfInBounds_toArray, List.set_cons_zero, List.set_cons_succ]
          refine rg_take (i := 5) (d := some 49) (l := #[true, true, true, true, false, true, false, false, false, false]) (fuel := 5) (v := ?_) rfl (by kernel_rfl) (by kernel_rfl) (by kernel_rfl) (by kernel_rfl) (by kernel_rfl) (fun _ _ _ h => h) (by kernel_rfl) ?_ (by assumption) ?_
          rotate_left 1
          · (intro wS hSw; (try dsimp only at hSw); go_simp; try with_reducible rfl)
          try simp only [Act.put, List.setIfInBounds_toArray, List.set_cons_zero, List.set_cons_succ]
          refine rg_take (i := 6) (d := some 50) (l := #[true, true, true, true, false, true, true, false, false, false]) (fuel := 4) (v := ?_) rfl (by kernel_rfl) (by kernel_rfl) (by kernel_rfl) (by kernel_rfl) (by kernel_rfl) (fun _ _ _ h => h) (by kernel_rfl) ?_ (by assumption) ?_
          rotate_left 1
          · (intro wS hSw; (try dsimp only at hSw); go_simp; try with_reducible rfl)
          try simp only [Act.put, List.setIfInBounds_toArray, List.set_cons_zero, List.set_cons_succ]
          refine rg_take (i := 7) (d := some 51) (l := #[true, true, true, true, false, true, true, true, false, false]) (fuel := 3) (v := ?_) rfl (by kernel_rfl) (by kernel_rfl) (by kernel_rfl) (by kernel_rfl) (by kernel_rfl) (fun _ _ _ h => h) (by kernel_rfl) ?_ (by assumption) ?_
          rotate_left 1
          · (intro wS hSw; (try dsimp only at hSw); go_simp; try with_reducible rfl)
          try simp only [Act.put, List.setIfInBounds_toArray, List.set_cons_zero, List.set_cons_succ]
          try rw [hwn]
          refine rg_next (i := 4) (l := #[true, true, true, true, true, true, true, true, false, false]) (fuel := 2) (by kernel_rfl) rfl (by kernel_rfl) (by kernel_rfl) (fun K hK => ?_)
          go_simp
          skip
          first | (refine hK.out _ _ ?_ (fun hHeld => ?_)) | (go_wp2_with fail; refine hK.out _ _ ?_ (fun hHeld => ?_))
          · (try dsimp only); exact e3
          clear hK K
          try simp only [Act.put, List.setIfInBounds_toArray, List.set_cons_zero, List.set_cons_succ]
          refine rg_take (i := 8) (d := some 52) (l := #[true, true, true, true, true, true, true, true, true, false]) (fuel := 1) (v := ?_) rfl (by kernel_rfl) (by kernel_rfl) (by kernel_rfl) (by kernel_rfl) (by kernel_rfl) (fun _ _ _ h => h) (by kernel_rfl) ?_ (by assumption) ?_
          rotate_left 1
          · (intro wS hSw; (try dsimp only at hSw); go_simp; try with_reducible rfl)
          try simp only [Act.put, List.setIfInBounds_toArray, List.set_cons_zero, List.set_cons_succ]
          try rw [hwt]
          refine rg_next (i := 9) (l := #[true, true, true, true, true, true, true, true, true, true]) (fuel := 0) (by kernel_rfl) rfl (by kernel_rfl) (by kernel_rfl) (fun K hK => ?_)
          go_simp
          (go_at_call 32)
          refine (rhto_any (R1.out.kp0 (Kp.refl _ _).drew) HI0.out.hp.ok HI0.out.hp.gd (HC.out.at_ BW1.out).e (fun w' kk => (HC.out.at_ (kk.onto (by exact BW1.out.drew) (by exact BW1.out.size) HI0.out.lo.2)).e) (HC.out.off HI0.out) T lT).mono ?_
          rintro e w2 ⟨rfl, z1, z2⟩
          replace z2 : Kp (J.all r) w1 w2 := ((Kp.refl (J.all r) w1).drew).trans z2 (fun z hz => .inl hz)
          have X := Lib.hid (HI0.out.two Y1.out (by simp) Y2.out z1 z2)
          have B2 := Lib.hid (B1.out.kp z2 hn2)
          clear z1 z2 c7 e3
          have e3 : w2.cell? ⟨hh, 3, none⟩ = some (.int .u32 n) := B2.out.cell 3
          first | (refine hK.out _ _ ?_ (fun hHeld => ?_)) | (go_wp2_with fail; refine hK.out _ _ ?_ (fun hHeld => ?_))
          · (try dsimp only); exact e3
          clear hK K
          try simp only [Act.put, List.setIfInBounds_toArray, List.set_cons_zero, List.set_cons_succ]
          refine wpAnyH_done (by kernel_rfl) ?_ _
          clear hHeld
          go_wp2_with fail
          go_meet
          case rel => exact ⟨rfl, ⟨_, X.out.1, HFT.out⟩, X.out.2⟩
        · clear e0 e2 e3 c7
          obtain ⟨v, hv⟩ : ∃ v, x.rv d (whereI (plA off)) (regI (plA off)) = v := ⟨_, rfl⟩
          have HV := Lib.hid hv
          have HFT := Lib.hid (Hp.far_rd (d := d) HFR.out (whereI (plA off)) (regI (plA off)))
          have nv : (v != v) = false := by simp
          clear hv
          go_wp2_with fail
          refine rg_begin (S := fun w' => w'.cell? ⟨hh, 1, none⟩ = some (.int .u16 off)) 9 #[false, false, false, false, false, false, false, false, false] (by kernel_rfl) (by kernel_rfl) (by kernel_rfl) ?_ (fun hHeld => ?_)
          · exact e1
          refine rg_take (i := 0) (d := some 56) (l := #[true, false, false, false, false, false, false, false, false]) (fuel := 8) (v := ?_) rfl (by kernel_rfl) (by kernel_rfl) (by kernel_rfl) (by kernel_rfl) (by kernel_rfl) (fun _ _ _ h => h) (by kernel_rfl) ?_ (by assumption) ?_
          rotate_left 1
          · (intro wS hSw; (try dsimp only at hSw); go_simp; try with_reducible rfl)
          try simp only [Act.put, List.setIfInBounds_toArray, List.set_cons_zero, List.set_cons_succ]
          refine rg_take (i := 1) (d := some 57) (l := #[true, true, false, false, false, false, false, false, false]) (fuel := 7) (v := ?_) rfl (by kernel_rfl) (by kernel_rfl) (by kernel_rfl) (by kernel_rfl) (by kernel_rfl) (fun _ _ _ h => h) (by kernel_rfl) ?_ (by assumption) ?_
          rotate_left 1
          · (intro wS hSw; (try dsimp only at hSw); go_simp; try with_reducible rfl)
          try simp only [Act.put, List.setIfInBounds_toArray, List.set_cons_zero, List.set_cons_succ]
          refine rg_take (i := 2) (d := some 58) (l := #[true, true, true, false, false, false, false, false, false]) (fuel := 6) (v := ?_) rfl (by kernel_rfl) (by kernel_rfl) (by kernel_rfl) (by kernel_rfl) (by kernel_rfl) (fun _ _ _ h => h) (by kernel_rfl) ?_ (by assumption) ?_
          rotate_left 1
          · (intro wS hSw; (try dsimp only at hSw); go_simp; try with_reducible rfl)
          try simp only [Act.put, List.setIfInBounds_toArray, List.set_cons_zero, List.set_cons_succ]
          refine rg_take (i := 4) (d := some 60) (l := #[true, true, true, false, true, false, false, false, false]) (fuel := 5) (v := ?_) rfl (by kernel_rfl) (by kernel_rfl) (by kernel_rfl) (by kernel_rfl) (by kernel_rfl) (fun _ _ _ h => h) (by kernel_rfl) ?_ (by assumption) ?_
          rotate_left 1
          · (intro wS hSw; (try dsimp only at hSw); go_simp; try with_reducible rfl)
          try simp only [Act.put, List.setIfInBounds_toArray, List.set_cons_zero, List.set_cons_succ]
          refine rg_take (i := 5) (d := some 61) (l := #[true, true, true, false, true, true, false, false, false]) (fuel := 4) (v := ?_) rfl (by kernel_rfl) (by kernel_rfl) (by kernel_rfl) (by kernel_rfl) (by kernel_rfl) (fun _ _ _ h => h) (by kernel_rfl) ?_ (by assumption) ?_
          rotate_left 1
          · (intro wS hSw; (try dsimp only at hSw); go_simp; try with_reducible rfl)
          try simp only [Act.put, List.setIfInBounds_toArray, List.set_cons_zero, List.set_cons_succ]
          refine rg_take (i := 6) (d := some 62) (l := #[true, true, true, false, true, true, true, false, false]) (fuel := 3) (v := ?_) rfl (by kernel_rfl) (by kernel_rfl) (by kernel_rfl) (by kernel_rfl) (by kernel_rfl) (fun _ _ _ h => h) (by kernel_rfl) ?_ (by assumption) ?_
          rotate_left 1
          · (intro wS hSw; (try dsimp only at hSw); go_simp; try with_reducible rfl)
          try simp only [Act.put, List.setIfInBounds_toArray, List.set_cons_zero, List.set_cons_succ]
          refine rg_next (i := 3) (l := #[true, true, true, true, true, true, true, false, false]) (fuel := 2) (by kernel_rfl) rfl (by kernel_rfl) (by kernel_rfl) (fun K hK => ?_)
          go_simp
          (go_at_call 20)
          refine (hread_any (HI0.out.kp0 (Kp.refl _ _).drew).hp HLIM.out off o0 o1).mono ?_
          rw [HV.out]
          rintro e w1 ⟨rfl, y1, y2⟩
          replace y2 : Kp [g, b.v, b.c, b.p] w0 w1 := ((Kp.refl [g, b.v, b.c, b.p] w0).drew).trans y2 (fun z hz => .inl hz)
          have Y1 := Lib.hid y1
          have Y2 := Lib.hid y2
          have R1 := Lib.hid (HI0.out.ref1 (fun _ h => h) Y2.out)
          have B1 := Lib.hid (HB0.out.kp Y2.out hn1)
          have BW1 := Lib.hid (HI0.out.bw1 (fun _ h => h) Y2.out)
          clear y1 y2 e1
          have e1 : w1.cell? ⟨hh, 1, none⟩ = some (.int .u16 off) := B1.out.cell 1
          first | (refine hK.out _ _ ?_ (fun hHeld => ?_)) | (go_wp2_with fail; refine hK.out _ _ ?_ (fun hHeld => ?_))
          · (try dsimp only); exact e1
          clear hK K
          try simp only [Act.put, List.setIfInBounds_toArray, List.set_cons_zero, List.set_cons_succ]
          refine rg_next (i := 7) (l := #[true, true, true, true, true, true, true, true, false]) (fuel := 1) (by kernel_rfl) rfl (by kernel_rfl) (by kernel_rfl) (fun K hK => ?_)
          go_simp
          (go_at_call 33)
          refine (rhread_any R1.out HI0.out.hp.ok (HC.out.at_ BW1.out) (by have := HC.out.sm; omega) HLIM.out (HC.out.pb x) HI0.out.hp.gd off o0 o1).mono ?_
          rw [HV.out]
          rintro e w2 ⟨rfl, z1, z2⟩
          have X := Lib.hid (HI0.out.two Y1.out (fun _ h => h) Y2.out z1 z2)
          have B2 := Lib.hid (B1.out.kp z2 hn2)
          clear z1 z2 e1
          have e1 : w2.cell? ⟨hh, 1, none⟩ = some (.int .u16 off) := B2.out.cell 1
          first | (refine hK.out _ _ ?_ (fun hHeld => ?_)) | (go_wp2_with fail; refine hK.out _ _ ?_ (fun hHeld => ?_))
          · (try dsimp only); exact e1
          clear hK K
          try simp only [Act.put, List.setIfInBounds_toArray, List.set_cons_zero, List.set_cons_succ]
          refine rg_take (i := 8) (d := some 64) (l := #[true, true, true, true, true, true, true, true, true]) (fuel := 0) (v := ?_) rfl (by kernel_rfl) (by kernel_rfl) (by kernel_rfl) (by kernel_rfl) (by kernel_rfl) (fun _ _ _ h => h) (by kernel_rfl) ?_ (by assumption) ?_
          rotate_left 1
          · (intro wS hSw; (try dsimp only at hSw); go_simp; try with_reducible rfl)
          try simp only [Act.put, List.setIfInBounds_toArray, List.set_cons_zero, List.set_cons_succ]
          refine wpAnyH_done (by kernel_rfl) ?_ _
          clear hHeld
          go_wp2_with fail
          go_meet
          case rel => exact ⟨rfl, ⟨_, X.out.1, HFT.out⟩, X.out.2⟩
        · clear e0 e3 c7
          have HFT := Lib.hid (Hp.far_wr HFR.out (whereI (plA off)) (regI (plA off)) u)
          go_wp2_with fail
          refine (hwrite_any HI0.out.hp HLIM.out off u o0 o1 u0 u1).mono ?_
          rintro e w1 ⟨rfl, y1, y2⟩
          have Y1 := Lib.hid y1
          have Y2 := Lib.hid y2
          have R1 := Lib.hid (HI0.out.ref1 (fun _ h => h) Y2.out)
          have B1 := Lib.hid (HB0.out.kp Y2.out hn1)
          have BW1 := Lib.hid (HI0.out.bw1 (fun _ h => h) Y2.out)
          clear y1 y2 e1 e2
          have e1 : w1.cell? ⟨hh, 1, none⟩ = some (.int .u16 off) := B1.out.cell 1
          have e2 : w1.cell? ⟨hh, 2, none⟩ = some (.int .u8 u) := B1.out.cell 2
          go_wp2_with fail
          refine (rhwrite_any R1.out off u o0 o1 u0 u1).mono ?_
          rintro e w2 ⟨rfl, z1, z2⟩
          have X := Lib.hid (HI0.out.two Y1.out (fun _ h => h) Y2.out z1 z2)
          clear z1 z2 e1 e2
          go_wp2_with fail
          go_meet
          case rel => exact ⟨rfl, ⟨_, X.out.1, HFT.out⟩, X.out.2⟩
        · clear e0 e1 e3 c7
          obtain ⟨q, hq⟩ : ∃ q, u % 6 = q := ⟨_, rfl⟩
          have q0 : 0 ≤ q := by omega
          have q1 : q ≤ 255 := by omega
          have HFT := Lib.hid (Hp.far_en HFR.out q)
          go_wp2_with fail
          refine (hentered_any HI0.out.hp q q0 q1).mono ?_
          rintro e w1 ⟨rfl, y1, y2⟩
          have Y1 := Lib.hid y1
          have Y2 := Lib.hid y2
          have R1 := Lib.hid (HI0.out.ref1 (by simp) Y2.out)
          have B1 := Lib.hid (HB0.out.kp Y2.out hg1)
          clear y1 y2 e2
          have e2 : w1.cell? ⟨hh, 2, none⟩ = some (.int .u8 u) := B1.out.cell 2
          go_wp2_with fail
          refine (rhentered_any R1.out q q0 q1).mono ?_
          rintro e w2 ⟨rfl, z1, z2⟩
          have X := Lib.hid (HI0.out.two Y1.out (by simp) Y2.out z1 z2)
          clear z1 z2 e2
          go_wp2_with fail
          go_meet
          case rel => exact ⟨rfl, ⟨_, X.out.1, HFT.out⟩, X.out.2⟩
      case rest =>
        obtain ⟨rfl, ⟨y, hI2, hf2⟩, hK2⟩ := hcut
        have HI2 : Hid (HX W wc.drew g d b r J Z y) := Lib.hid (hI2.kp0 (Kp.refl _ _).drew)
        have HK2 : Hid (Kp (hxL g b r J) w wc.drew) := Lib.hid (HK0.out.trans hK2 (fun z hz => .inl hz)).drew
        have HF2 := Lib.hid hf2
        obtain ⟨S, hS⟩ : ∃ S, stC y = S := ⟨_, rfl⟩
        obtain ⟨v1, hv1⟩ : ∃ v, y.now = v := ⟨_, rfl⟩
        obtain ⟨v2, hv2⟩ : ∃ v, y.ch d false = v := ⟨_, rfl⟩
        obtain ⟨v3, hv3⟩ : ∃ v, y.ch d true = v := ⟨_, rfl⟩
        have m1 : (v1 != v1) = false := by simp
        have m2 : (v2 != v2) = false := by simp
        have m3 : (v3 != v3) = false := by simp
        have HS := Lib.hid hS
        have HV1 := Lib.hid hv1
        have HV2 := Lib.hid hv2
        have HV3 := Lib.hid hv3
        have c7 : wc.drew.cell? ⟨r, 7, none⟩ = some (.int .i64 v1) := hv1 ▸ HI2.out.rh.cells.2.2.2.2.2.2.2
        clear hI2 hf2 hK2 HI0 HB0 HK0 HFR e0 e1 e2 e3 hS hv1 hv2 hv3
        go_wp2_with fail
        refine rg_begin (S := fun w' => w'.cell? ⟨r, 7, none⟩ = some (.int .i64 v1)) 28 #[false, false, false, false, false, false, false, false, false, false, false, false, false, false, false, false, false, false, false, false, false, false, false, false, false, false, false, false] (by kernel_rfl) (by kernel_rfl) (by kernel_rfl) ?_ (fun hHeld => ?_)
        · exact c7
        generalize wc.drew = u0 at *
        refine rg_take (i := 0) (d := some 79) (l := #[true, false, false, false, false, false, false, false, false, false, false, false, false, false, false, false, false, false, false, false, false, false, false, false, false, false, false, false]) (fuel := 27) (v := ?_) rfl (by kernel_rfl) (by kernel_rfl) (by kernel_rfl) (by kernel_rfl) (by kernel_rfl) (fun _ _ _ h => h) (by kernel_rfl) ?_ (by assumption) ?_
        rotate_left 1
        · (intro wS hSw; (try dsimp only at hSw); go_simp; try with_reducible rfl)
        try simp only [Act.put, List.setIfInBounds_toArray, List.set_cons_zero, List.set_cons_succ]
        refine rg_take (i := 2) (d := some 81) (l := #[true, false, true, false, false, false, false, false, false, false, false, false, false, false, false, false, false, false, false, false, false, false, false, false, false, false, false, false]) (fuel := 26) (v := ?_) rfl (by kernel_rfl) (by kernel_rfl) (by kernel_rfl) (by kernel_rfl) (by kernel_rfl) (fun _ _ _ h => h) (by kernel_rfl) ?_ (by assumption) ?_
        rotate_left 1
        · (intro wS hSw; (try dsimp only at hSw); go_simp; try with_reducible rfl)
        try simp only [Act.put, List.setIfInBounds_toArray, List.set_cons_zero, List.set_cons_succ]
        refine rg_next (i := 1) (l := #[true, true, true, false, false, false, false, false, false, false, false, false, false, false, false, false, false, false, false, false, false, false, false, false, false, false, false, false]) (fuel := 25) (by kernel_rfl) rfl (by kernel_rfl) (by kernel_rfl) (fun K hK => ?_)
        go_simp
        (go_at_call 13)
        refine (hstatus_v HI2.out.hp HS.out).mono ?_
        rintro e u1 ⟨rfl, bb⟩
        have HI2' := Lib.hid (HI2.out.on bb)
        have HK2' : Hid (Kp (hxL g b r J) w u1) := Lib.hid (HK2.out.trans (Kp.of_below (L := hxL g b r J) bb) (fun z hz => .inl hz))
        clear HI2 HK2 c7
        have HI2 := HI2'
        have HK2 := HK2'
        clear HI2' HK2'
        have c7 := HV1.out ▸ HI2.out.rh.cells.2.2.2.2.2.2.2
        clear bb
        first | (refine hK.out _ _ ?_ (fun hHeld => ?_)) | (go_wp2_with fail; refine hK.out _ _ ?_ (fun hHeld => ?_))
        · (try dsimp only); exact c7
        clear hK K
        try simp only [Act.put, List.setIfInBounds_toArray, List.set_cons_zero, List.set_cons_succ]
        refine rg_next (i := 3) (l := #[true, true, true, true, false, false, false, false, false, false, false, false, false, false, false, false, false, false, false, false, false, false, false, false, false, false, false, false]) (fuel := 24) (by kernel_rfl) rfl (by kernel_rfl) (by kernel_rfl) (fun K hK => ?_)
        go_simp
        (go_at_call 14)
        refine (rhstatus_v HI2.out.rh HS.out).mono ?_
        rintro e u2 ⟨rfl, bb⟩
        have HI2' := Lib.hid (HI2.out.on bb)
        have HK2' : Hid (Kp (hxL g b r J) w u2) := Lib.hid (HK2.out.trans (Kp.of_below (L := hxL g b r J) bb) (fun z hz => .inl hz))
        clear HI2 HK2 c7
        have HI2 := HI2'
        have HK2 := HK2'
        clear HI2' HK2'
        have c7 := HV1.out ▸ HI2.out.rh.cells.2.2.2.2.2.2.2
        clear bb
        first | (refine hK.out _ _ ?_ (fun hHeld => ?_)) | (go_wp2_with fail; refine hK.out _ _ ?_ (fun hHeld => ?_))
        · (try dsimp only); exact c7
        clear hK K
        try simp only [Act.put, List.setIfInBounds_toArray, List.set_cons_zero, List.set_cons_succ]
        refine rg_take (i := 4) (d := some 83) (l := #[true, true, true, true, true, false, false, false, false, false, false, false, false, false, false, false, false, false, false, false, false, false, false, false, false, false, false, false]) (fuel := 23) (v := .bool false) rfl (by kernel_rfl) (by kernel_rfl) (by kernel_rfl) (by kernel_rfl) (by kernel_rfl) (fun _ _ _ h => h) (by kernel_rfl) ?_ (by assumption) ?_
        · (intro wS hSw; (try dsimp only at hSw); (rw [← HS.out]; unfold stC; go_simp))
        try simp only [Act.put, List.setIfInBounds_toArray, List.set_cons_zero, List.set_cons_succ]
        refine rg_take (i := 5) (d := some 84) (l := #[true, true, true, true, true, true, false, false, false, false, false, false, false, false, false, false, false, false, false, false, false, false, false, false, false, false, false, false]) (fuel := 22) (v := ?_) rfl (by kernel_rfl) (by kernel_rfl) (by kernel_rfl) (by kernel_rfl) (by kernel_rfl) (fun _ _ _ h => h) (by kernel_rfl) ?_ (by assumption) ?_
        rotate_left 1
        · (intro wS hSw; (try dsimp only at hSw); go_simp; try with_reducible rfl)
        try simp only [Act.put, List.setIfInBounds_toArray, List.set_cons_zero, List.set_cons_succ]
        refine rg_take (i := 6) (d := some 85) (l := #[true, true, true, true, true, true, true, false, false, false, false, false, false, false, false, false, false, false, false, false, false, false, false, false, false, false, false, false]) (fuel := 21) (v := ?_) rfl (by kernel_rfl) (by kernel_rfl) (by kernel_rfl) (by kernel_rfl) (by kernel_rfl) (fun _ _ _ h => h) (by kernel_rfl) ?_ (by assumption) ?_
        rotate_left 1
        · (intro wS hSw; (try dsimp only at hSw); go_simp; try with_reducible rfl)
        try simp only [Act.put, List.setIfInBounds_toArray, List.set_cons_zero, List.set_cons_succ]
        refine rg_take (i := 8) (d := some 87) (l := #[true, true, true, true, true, true, true, false, true, false, false, false, false, false, false, false, false, false, false, false, false, false, false, false, false, false, false, false]) (fuel := 20) (v := ?_) rfl (by kernel_rfl) (by kernel_rfl) (by kernel_rfl) (by kernel_rfl) (by kernel_rfl) (fun _ _ _ h => h) (by kernel_rfl) ?_ (by assumption) ?_
        rotate_left 1
        · (intro wS hSw; (try dsimp only at hSw); go_simp; try with_reducible rfl)
        try simp only [Act.put, List.setIfInBounds_toArray, List.set_cons_zero, List.set_cons_succ]
        refine rg_take (i := 9) (d := some 88) (l := #[true, true, true, true, true, true, true, false, true, true, false, false, false, false, false, false, false, false, false, false, false, false, false, false, false, false, false, false]) (fuel := 19) (v := ?_) rfl (by kernel_rfl) (by kernel_rfl) (by kernel_rfl) (by kernel_rfl) (by kernel_rfl) (fun _ _ _ h => h) (by kernel_rfl) ?_ (by assumption) ?_
        rotate_left 1
        · (intro wS hSw; (try dsimp only at hSw); go_simp; try with_reducible rfl)
        try simp only [Act.put, List.setIfInBounds_toArray, List.set_cons_zero, List.set_cons_succ]
        refine rg_take (i := 10) (d := some 89) (l := #[true, true, true, true, true, true, true, false, true, true, true, false, false, false, false, false, false, false, false, false, false, false, false, false, false, false, false, false]) (fuel := 18) (v := ?_) rfl (by kernel_rfl) (by kernel_rfl) (by kernel_rfl) (by kernel_rfl) (by kernel_rfl) (fun _ _ _ h => h) (by kernel_rfl) ?_ (by assumption) ?_
        rotate_left 1
        · (intro wS hSw; (try dsimp only at hSw); go_simp; try with_reducible rfl)
        try simp only [Act.put, List.setIfInBounds_toArray, List.set_cons_zero, List.set_cons_succ]
        refine rg_take (i := 11) (d := some 90) (l := #[true, true, true, true, true, true, true, false, true, true, true, true, false, false, false, false, false, false, false, false, false, false, false, false, false, false, false, false]) (fuel := 17) (v := ?_) rfl (by kernel_rfl) (by kernel_rfl) (by kernel_rfl) (by kernel_rfl) (by kernel_rfl) (fun _ _ _ h => h) (by kernel_rfl) ?_ (by assumption) ?_
        rotate_left 1
        · (intro wS hSw; (try dsimp only at hSw); go_simp; try with_reducible rfl)
        try simp only [Act.put, List.setIfInBounds_toArray, List.set_cons_zero, List.set_cons_succ]
        refine rg_next (i := 7) (l := #[true, true, true, true, true, true, true, true, true, true, true, true, false, false, false, false, false, false, false, false, false, false, false, false, false, false, false, false]) (fuel := 16) (by kernel_rfl) rfl (by kernel_rfl) (by kernel_rfl) (fun K hK => ?_)
        go_simp
        (go_at_call 15)
        refine (hnow_v HI2.out.hp HV1.out).mono ?_
        rintro e w' ⟨rfl, rfl⟩
        first | (refine hK.out _ _ ?_ (fun hHeld => ?_)) | (go_wp2_with fail; refine hK.out _ _ ?_ (fun hHeld => ?_))
        · (try dsimp only); exact c7
        clear hK K
        try simp only [Act.put, List.setIfInBounds_toArray, List.set_cons_zero, List.set_cons_succ]
        refine rg_take (i := 12) (d := some 91) (l := #[true, true, true, true, true, true, true, true, true, true, true, true, true, false, false, false, false, false, false, false, false, false, false, false, false, false, false, false]) (fuel := 15) (v := ?_) rfl (by kernel_rfl) (by kernel_rfl) (by kernel_rfl) (by kernel_rfl) (by kernel_rfl) (fun _ _ _ h => h) (by kernel_rfl) ?_ (by assumption) ?_
        rotate_left 1
        · (intro wS hSw; (try dsimp only at hSw); go_simp; try with_reducible rfl)
        try simp only [Act.put, List.setIfInBounds_toArray, List.set_cons_zero, List.set_cons_succ]
        refine rg_take (i := 13) (d := some 92) (l := #[true, true, true, true, true, true, true, true, true, true, true, true, true, true, false, false, false, false, false, false, false, false, false, false, false, false, false, false]) (fuel := 14) (v := ?_) rfl (by kernel_rfl) (by kernel_rfl) (by kernel_rfl) (by kernel_rfl) (by kernel_rfl) (fun _ _ _ h => h) (by kernel_rfl) ?_ (by assumption) ?_
        rotate_left 1
        · (intro wS hSw; (try dsimp only at hSw); go_simp; try with_reducible rfl)
        try simp only [Act.put, List.setIfInBounds_toArray, List.set_cons_zero, List.set_cons_succ]
        refine rg_take (i := 14) (d := some 93) (l := #[true, true, true, true, true, true, true, true, true, true, true, true, true, true, true, false, false, false, false, false, false, false, false, false, false, false, false, false]) (fuel := 13) (v := ?_) rfl (by kernel_rfl) (by kernel_rfl) (by kernel_rfl) (by kernel_rfl) (by kernel_rfl) (fun _ _ _ h => h) (by kernel_rfl) ?_ (by assumption) ?_
        rotate_left 1
        · (intro wS hSw; (try dsimp only at hSw); go_simp; try with_reducible rfl)
        try simp only [Act.put, List.setIfInBounds_toArray, List.set_cons_zero, List.set_cons_succ]
        refine rg_take (i := 15) (d := some 94) (l := #[true, true, true, true, true, true, true, true, true, true, true, true, true, true, true, true, false, false, false, false, false, false, false, false, false, false, false, false]) (fuel := 12) (v := ?_) rfl (by kernel_rfl) (by kernel_rfl) (by kernel_rfl) (by kernel_rfl) (by kernel_rfl) (fun _ _ _ h => h) (by kernel_rfl) ?_ (by assumption) ?_
        rotate_left 1
        · (intro wS hSw; (try dsimp only at hSw); go_simp; try with_reducible rfl)
        try simp only [Act.put, List.setIfInBounds_toArray, List.set_cons_zero, List.set_cons_succ]
        refine rg_take (i := 17) (d := some 96) (l := #[true, true, true, true, true, true, true, true, true, true, true, true, true, true, true, true, false, true, false, false, false, false, false, false, false, false, false, false]) (fuel := 11) (v := ?_) rfl (by kernel_rfl) (by kernel_rfl) (by kernel_rfl) (by kernel_rfl) (by kernel_rfl) (fun _ _ _ h => h) (by kernel_rfl) ?_ (by assumption) ?_
        rotate_left 1
        · (intro wS hSw; (try dsimp only at hSw); go_simp; try with_reducible rfl)
        try simp only [Act.put, List.setIfInBounds_toArray, List.set_cons_zero, List.set_cons_succ]
        refine rg_next (i := 16) (l := #[true, true, true, true, true, true, true, true, true, true, true, true, true, true, true, true, true, true, false, false, false, false, false, false, false, false, false, false]) (fuel := 10) (by kernel_rfl) rfl (by kernel_rfl) (by kernel_rfl) (fun K hK => ?_)
        go_simp
        (go_at_call 17)
        refine (hchoose_v HI2.out.hp HV2.out).mono ?_
        rintro e u3 ⟨rfl, bb⟩
        have HI2' := Lib.hid (HI2.out.on bb)
        have HK2' : Hid (Kp (hxL g b r J) w u3) := Lib.hid (HK2.out.trans (Kp.of_below (L := hxL g b r J) bb) (fun z hz => .inl hz))
        clear HI2 HK2 c7
        have HI2 := HI2'
        have HK2 := HK2'
        clear HI2' HK2'
        have c7 := HV1.out ▸ HI2.out.rh.cells.2.2.2.2.2.2.2
        clear bb
        first | (refine hK.out _ _ ?_ (fun hHeld => ?_)) | (go_wp2_with fail; refine hK.out _ _ ?_ (fun hHeld => ?_))
        · (try dsimp only); exact c7
        clear hK K
        try simp only [Act.put, List.setIfInBounds_toArray, List.set_cons_zero, List.set_cons_succ]
        refine rg_next (i := 18) (l := #[true, true, true, true, true, true, true, true, true, true, true, true, true, true, true, true, true, true, true, false, false, false, false, false, false, false, false, false]) (fuel := 9) (by kernel_rfl) rfl (by kernel_rfl) (by kernel_rfl) (fun K hK => ?_)
        go_simp
        (go_at_call 36)
        refine (rhchoose_v HI2.out.rh HI2.out.hp.ok HI2.out.hp.gd (HC.out.at_ HI2.out.bw).e HV2.out).mono ?_
        rintro e u4 ⟨rfl, bb⟩
        have HI2' := Lib.hid (HI2.out.on bb)
        have HK2' : Hid (Kp (hxL g b r J) w u4) := Lib.hid (HK2.out.trans (Kp.of_below (L := hxL g b r J) bb) (fun z hz => .inl hz))
        clear HI2 HK2 c7
        have HI2 := HI2'
        have HK2 := HK2'
        clear HI2' HK2'
        have c7 := HV1.out ▸ HI2.out.rh.cells.2.2.2.2.2.2.2
        clear bb
        first | (refine hK.out _ _ ?_ (fun hHeld => ?_)) | (go_wp2_with fail; refine hK.out _ _ ?_ (fun hHeld => ?_))
        · (try dsimp only); exact c7
        clear hK K
        try simp only [Act.put, List.setIfInBounds_toArray, List.set_cons_zero, List.set_cons_succ]
        refine rg_take (i := 19) (d := some 98) (l := #[true, true, true, true, true, true, true, true, true, true, true, true, true, true, true, true, true, true, true, true, false, false, false, false, false, false, false, false]) (fuel := 8) (v := ?_) rfl (by kernel_rfl) (by kernel_rfl) (by kernel_rfl) (by kernel_rfl) (by kernel_rfl) (fun _ _ _ h => h) (by kernel_rfl) ?_ (by assumption) ?_
        rotate_left 1
        · (intro wS hSw; (try dsimp only at hSw); go_simp; try with_reducible rfl)
        try simp only [Act.put, List.setIfInBounds_toArray, List.set_cons_zero, List.set_cons_succ]
        refine rg_take (i := 20) (d := some 99) (l := #[true, true, true, true, true, true, true, true, true, true, true, true, true, true, true, true, true, true, true, true, true, false, false, false, false, false, false, false]) (fuel := 7) (v := ?_) rfl (by kernel_rfl) (by kernel_rfl) (by kernel_rfl) (by kernel_rfl) (by kernel_rfl) (fun _ _ _ h => h) (by kernel_rfl) ?_ (by assumption) ?_
        rotate_left 1
        · (intro wS hSw; (try dsimp only at hSw); go_simp; try with_reducible rfl)
        try simp only [Act.put, List.setIfInBounds_toArray, List.set_cons_zero, List.set_cons_succ]
        refine rg_take (i := 21) (d := some 100) (l := #[true, true, true, true, true, true, true, true, true, true, true, true, true, true, true, true, true, true, true, true, true, true, false, false, false, false, false, false]) (fuel := 6) (v := ?_) rfl (by kernel_rfl) (by kernel_rfl) (by kernel_rfl) (by kernel_rfl) (by kernel_rfl) (fun _ _ _ h => h) (by kernel_rfl) ?_ (by assumption) ?_
        rotate_left 1
        · (intro wS hSw; (try dsimp only at hSw); go_simp; try with_reducible rfl)
        try simp only [Act.put, List.setIfInBounds_toArray, List.set_cons_zero, List.set_cons_succ]
        refine rg_take (i := 22) (d := some 101) (l := #[true, true, true, true, true, true, true, true, true, true, true, true, true, true, true, true, true, true, true, true, true, true, true, false, false, false, false, false]) (fuel := 5) (v := ?_) rfl (by kernel_rfl) (by kernel_rfl) (by kernel_rfl) (by kernel_rfl) (by kernel_rfl) (fun _ _ _ h => h) (by kernel_rfl) ?_ (by assumption) ?_
        rotate_left 1
        · (intro wS hSw; (try dsimp only at hSw); go_simp; try with_reducible rfl)
        try simp only [Act.put, List.setIfInBounds_toArray, List.set_cons_zero, List.set_cons_succ]
        refine rg_take (i := 24) (d := some 103) (l := #[true, true, true, true, true, true, true, true, true, true, true, true, true, true, true, true, true, true, true, true, true, true, true, false, true, false, false, false]) (fuel := 4) (v := ?_) rfl (by kernel_rfl) (by kernel_rfl) (by kernel_rfl) (by kernel_rfl) (by kernel_rfl) (fun _ _ _ h => h) (by kernel_rfl) ?_ (by assumption) ?_
        rotate_left 1
        · (intro wS hSw; (try dsimp only at hSw); go_simp; try with_reducible rfl)
        try simp only [Act.put, List.setIfInBounds_toArray, List.set_cons_zero, List.set_cons_succ]
        refine rg_next (i := 23) (l := #[true, true, true, true, true, true, true, true, true, true, true, true, true, true, true, true, true, true, true, true, true, true, true, true, true, false, false, false]) (fuel := 3) (by kernel_rfl) rfl (by kernel_rfl) (by kernel_rfl) (fun K hK => ?_)
        go_simp
        (go_at_call 17)
        refine (hchoose_v HI2.out.hp HV3.out).mono ?_
        rintro e u5 ⟨rfl, bb⟩
        have HI2' := Lib.hid (HI2.out.on bb)
        have HK2' : Hid (Kp (hxL g b r J) w u5) := Lib.hid (HK2.out.trans (Kp.of_below (L := hxL g b r J) bb) (fun z hz => .inl hz))
        clear HI2 HK2 c7
        have HI2 := HI2'
        have HK2 := HK2'
        clear HI2' HK2'
        have c7 := HV1.out ▸ HI2.out.rh.cells.2.2.2.2.2.2.2
        clear bb
        first | (refine hK.out _ _ ?_ (fun hHeld => ?_)) | (go_wp2_with fail; refine hK.out _ _ ?_ (fun hHeld => ?_))
        · (try dsimp only); exact c7
        clear hK K
        try simp only [Act.put, List.setIfInBounds_toArray, List.set_cons_zero, List.set_cons_succ]
        refine rg_next (i := 25) (l := #[true, true, true, true, true, true, true, true, true, true, true, true, true, true, true, true, true, true, true, true, true, true, true, true, true, true, false, false]) (fuel := 2) (by kernel_rfl) rfl (by kernel_rfl) (by kernel_rfl) (fun K hK => ?_)
        go_simp
        (go_at_call 36)
        refine (rhchoose_v HI2.out.rh HI2.out.hp.ok HI2.out.hp.gd (HC.out.at_ HI2.out.bw).e HV3.out).mono ?_
        rintro e u6 ⟨rfl, bb⟩
        have HI2' := Lib.hid (HI2.out.on bb)
        have HK2' : Hid (Kp (hxL g b r J) w u6) := Lib.hid (HK2.out.trans (Kp.of_below (L := hxL g b r J) bb) (fun z hz => .inl hz))
        clear HI2 HK2 c7
        have HI2 := HI2'
        have HK2 := HK2'
        clear HI2' HK2'
        have c7 := HV1.out ▸ HI2.out.rh.cells.2.2.2.2.2.2.2
        clear bb
        first | (refine hK.out _ _ ?_ (fun hHeld => ?_)) | (go_wp2_with fail; refine hK.out _ _ ?_ (fun hHeld => ?_))
        · (try dsimp only); exact c7
        clear hK K
        try simp only [Act.put, List.setIfInBounds_toArray, List.set_cons_zero, List.set_cons_succ]
        refine rg_take (i := 26) (d := some 105) (l := #[true, true, true, true, true, true, true, true, true, true, true, true, true, true, true, true, true, true, true, true, true, true, true, true, true, true, true, false]) (fuel := 1) (v := ?_) rfl (by kernel_rfl) (by kernel_rfl) (by kernel_rfl) (by kernel_rfl) (by kernel_rfl) (fun _ _ _ h => h) (by kernel_rfl) ?_ (by assumption) ?_
        rotate_left 1
        · (intro wS hSw; (try dsimp only at hSw); go_simp; try with_reducible rfl)
        try simp only [Act.put, List.setIfInBounds_toArray, List.set_cons_zero, List.set_cons_succ]
        refine rg_take (i := 27) (d := some 106) (l := #[true, true, true, true, true, true, true, true, true, true, true, true, true, true, true, true, true, true, true, true, true, true, true, true, true, true, true, true]) (fuel := 0) (v := ?_) rfl (by kernel_rfl) (by kernel_rfl) (by kernel_rfl) (by kernel_rfl) (by kernel_rfl) (fun _ _ _ h => h) (by kernel_rfl) ?_ (by assumption) ?_
        rotate_left 1
        · (intro wS hSw; (try dsimp only at hSw); go_simp; try with_reducible rfl)
        try simp only [Act.put, List.setIfInBounds_toArray, List.set_cons_zero, List.set_cons_succ]
        refine wpAnyH_done (by kernel_rfl) ?_ _
        clear hHeld
        go_wp2_with fail
        go_roundw
        case rel => exact ⟨k + 1, by omega, by go_num, ⟨y, HI2.out, HF2.out⟩, HK2.out⟩
        case measure => simp [intOf]; omega
    · obtain rfl : k = m := by omega
      go_wp2_with fail
      go_ret
      exact ⟨rfl, ⟨x, HI.out, Hp.far_mono HFR.out (by omega)⟩, HK.out⟩
end Go.Proofs.YtcnjekballnncaaGreat
