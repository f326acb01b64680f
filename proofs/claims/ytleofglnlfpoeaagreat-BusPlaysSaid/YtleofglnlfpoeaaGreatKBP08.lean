/-
  Texts of these proofs, one behind the other: Lin5, Lin6, Hln.
-/
import Derived.Test.YtleofglnlfpoeaaGreatKBP07
import Derived.StillTailTactics
import Derived.BigRegion
import Derived.Deep.Cut
import Derived.Deep.CutRange
namespace Go.Proofs.YtleofglnlfpoeaaGreat
open Go.RowKit
set_option linter.unusedVariables false
set_option linter.unusedSimpArgs false
set_option maxRecDepth 100000
def upV (es : Nat → Iib) (s j : Nat) : Bool := if j < 4 then upTo es s j else false
section
variable {w : World} {g n : Nat} {es : Nat → Iib} {s : Nat} {r : Bool}
def ECloneR (g n : Nat) (es : Nat → Iib) (s : Nat) (r : Bool) (w : World) (e : Ending) (w' : World) : Prop :=
  e = .returned (.pointer (some ⟨w.heap.size, 0, none⟩)) ∧ LN w' w.heap.size n es s r ∧ Below w.heap.size w w'
end
section
variable (w : World)
end
end Go.Proofs.YtleofglnlfpoeaaGreat
namespace Go.Proofs.YtleofglnlfpoeaaGreat
open Go.RowKit
set_option linter.unusedVariables false
set_option linter.unusedSimpArgs false
set_option maxRecDepth 100000
theorem slice_e (A : Option Addr) (n c e : Nat) (he : e ≤ n) (hc : n ≤ c) (W : World) : (Instr.slice 26 (.slice A n c) (some (.int .i64 (e : Int))) none none).run Tryz.prog W = .ok (.slice (if c = e then A else A.map (·.add (e * 3))) (n - e) (c - e)) W := by
  have hs : (sizeOf 154).run Tryz.prog W = .ok 3 W := by kernel_rfl
  have he' : Tryz.prog.elem 26 = 154 := by kernel_rfl
  rw [run_slice_l (P := Tryz.prog) W 26 A n c (by rw [he']; exact Tryz.underlying26) .i64 e (by omega) (by omega)]
  rw [he', hs]
  simp [Result.andThen, sliced]
theorem up_step (es : Nat → Iib) (k : Nat) (l : Int) : upTo es (k + 1) l = if (es k).b = l then (es k).c else upTo es k l := rfl
end Go.Proofs.YtleofglnlfpoeaaGreat
namespace Go.Proofs.YtleofglnlfpoeaaGreat
open Go.RowKit
set_option linter.unusedVariables false
set_option linter.unusedSimpArgs false
set_option maxRecDepth 100000
/-- A page's cells, lines being among them. -/
def hpL (X : Nat → Value) (A : Option Addr) (n c s : Nat) (up : Nat → Bool) (r : Bool) : Array Value :=
  #[X 0, X 1, X 2, X 3, .slice A n c, .int .i64 s, .bool (up 0), .bool (up 1), .bool (up 2), .bool (up 3), .bool r, X 11, X 12, X 13, X 14, X 15, X 16, X 17, X 18, X 19, X 20, X 21, X 22]
section
variable (X : Nat → Value)
theorem hpL_up (A : Option Addr) (n c s : Nat) (up : Nat → Bool) (r : Bool) (j : Nat) (h : j < 4) : (hpL X A n c s up r)[6 + j]? = some (.bool (up j)) := by
  have : j = 0 ∨ j = 1 ∨ j = 2 ∨ j = 3 := by omega
  rcases this with rfl | rfl | rfl | rfl <;> rfl
theorem hpL_set (A : Option Addr) (n c s : Nat) (up : Nat → Bool) (r : Bool) (j : Nat) (h : j < 4) (b : Bool) : (hpL X A n c s up r).setIfInBounds (6 + j) (.bool b) = hpL X A n c s (fun i => if i = j then b else up i) r := by
  have : j = 0 ∨ j = 1 ∨ j = 2 ∨ j = 3 := by omega
  rcases this with rfl | rfl | rfl | rfl <;> rfl
end
/-- In the page at g there are lines, s of their edges having gone by. -/
def LNH (X : Nat → Value) (w : World) (g n : Nat) (es : Nat → Iib) (s : Nat) (r : Bool) : Prop :=
  s ≤ n ∧ ∃ A c, Blk w g 99 (hpL X A n c s (fun j => upTo es s j) r) ∧ EOwn w A n c es
def HLnR (X : Nat → Value) (v : Value) (g n : Nat) (es : Nat → Iib) (s : Nat) (r : Bool) (w : World) (e : Ending) (w' : World) : Prop := e = .returned v ∧ LNH X w' g n es s r ∧ Kp [g] w w'
theorem htyped_off {w : World} {g : Nat} {cs : Array Value} (hb : Blk w g 99 cs) : ∀ x ∈ [g], ∃ t cs, Blk w x t cs ∧ 154 ≠ t := fun x hx => by
  obtain rfl : x = g := by simpa using hx
  exact ⟨_, _, hb, by decide⟩
section
variable {X : Nat → Value} {w : World} {g n : Nat} {es : Nat → Iib} {s : Nat} {r : Bool}
theorem hup_any (h : LNH X w g n es s r) (j : Nat) (hj : j ≤ 255) :
    Calls Tryz.prog 120 #[.pointer (some ⟨g, 4, none⟩), .int .u8 (j : Int)] w fun e w' => e = .returned (.bool (upV es s j)) ∧ w = w' := by
  obtain ⟨_, A, c, hb, _⟩ := h
  by_cases h4 : j < 4
  · have e : upV es s j = upTo es s j := by unfold upV; rw [if_pos h4]
    rw [e]
    clear e
    have c0 : w.cell? ⟨g, 6 + j, none⟩ = some (.bool (upTo es s j)) := by rw [hb.cell, hpL_up X _ _ _ _ _ _ _ h4]
    have i0 : (0 : Int) ≤ (j : Int) := by omega
    have i4 : (j : Int) < 4 := by omega
    clear hb
    go_enter Tryz.func120, Tryz.ntmps120
    go_wp2
    go_ret
    exact ⟨rfl, rfl⟩
  · have e : upV es s j = false := by unfold upV; rw [if_neg h4]
    rw [e]
    clear e hb
    have i4 : ¬ (j : Int) < 4 := by omega
    go_enter Tryz.func120, Tryz.ntmps120
    go_wp2
    go_ret
    exact ⟨rfl, rfl⟩
theorem hrose_any (h : LNH X w g n es s r) :
    Calls Tryz.prog 121 #[.pointer (some ⟨g, 4, none⟩)] w fun e w' => e = .returned (.bool r) ∧ w = w' := by
  obtain ⟨_, A, c, hb, _⟩ := h
  have c0 : w.cell? ⟨g, 10, none⟩ = some (.bool r) := hb.cell 10
  clear hb
  go_enter Tryz.func121, Tryz.ntmps121
  go_wp2
  go_ret
  exact ⟨rfl, rfl⟩
theorem htake_any (h : LNH X w g n es s r) :
    Calls Tryz.prog 115 #[.pointer (some ⟨g, 4, none⟩)] w (HLnR X (.tuple #[]) g n es s false w) := by
  obtain ⟨hs, A, c, hb, hE⟩ := h
  have c0 : w.cell? ⟨g, 10, none⟩ = some (.bool r) := hb.cell 10
  have f0 := hb.frozen 10
  have HB := Lib.hid hb
  have HE := Lib.hid hE
  clear hb hE
  go_enter Tryz.func115, Tryz.ntmps115
  go_wp2
  go_end0
  have kp : Kp [g] w (w.setCell ⟨g, 10, none⟩ (.bool false)) := (Kp.refl _ _).setCell (.inl (by simp)) _
  exact ⟨rfl, ⟨hs, A, c, HB.out.set_ 10 _, HE.out.kp kp (htyped_off HB.out)⟩, kp⟩
theorem hclone_any (h : LNH X w g n es s r) :
    Calls Tryz.prog 97 #[.pointer (some ⟨g, 4, none⟩)] w (ECloneR g n es s r w) := by
  obtain ⟨hs, A, c, hb, hE⟩ := h
  have c0 : w.cell? ⟨g, 4, none⟩ = some (.slice A n c) := hb.cell 4
  have c1 : w.cell? ⟨g, 5, none⟩ = some (.int .i64 s) := hb.cell 5
  have c2 : w.cell? ⟨g, 6, none⟩ = some (.bool (upTo es s (0 : Nat))) := hb.cell 6
  have c3 : w.cell? ⟨g, 7, none⟩ = some (.bool (upTo es s (1 : Nat))) := hb.cell 7
  have c4 : w.cell? ⟨g, 8, none⟩ = some (.bool (upTo es s (2 : Nat))) := hb.cell 8
  have c5 : w.cell? ⟨g, 9, none⟩ = some (.bool (upTo es s (3 : Nat))) := hb.cell 9
  have c6 : w.cell? ⟨g, 10, none⟩ = some (.bool r) := hb.cell 10
  have HE := Lib.hid hE
  clear hb hE
  go_enter Tryz.func97, Tryz.ntmps97
  go_wp2
  go_ret
  have hB : Below w.heap.size w (w.alloc (.cells (lnC A n c s (fun j => upTo es s j) r) 80)) := (Below.refl _ _).alloc (Nat.le_refl _) _
  exact ⟨rfl, ⟨hs, A, c, Blk.new w 80 _, HE.out.keep hB⟩, hB⟩
end
/-- What of lines has gone by: the part of a loop's relation that speaks of memory. -/
def HToI (X : Nat → Value) (w : World) (g n c s k : Nat) (A : Option Addr) (es : Nat → Iib) (r : Bool) (wr : World) : Prop :=
  Blk wr g 99 (hpL X A n c (s + k) (fun j => upTo es (s + k) j) (roseTo es r s k)) ∧ EOwn wr A n c es ∧ Kp [g] w wr
set_option maxHeartbeats 4000000 in
theorem hto_any {X : Nat → Value} {w : World} {g n : Nat} {es : Nat → Iib} {s : Nat} {r : Bool} (h : LNH X w g n es s r) (hg : Good n es) (t : Int) :
    Calls Tryz.prog 155 #[.pointer (some ⟨g, 4, none⟩), .int .i64 t] w (HLnR X (.tuple #[]) g n es (pass es n t s) (roseTo es r s (pass es n t s - s)) w) := by
  obtain ⟨hn, hbad, hb0⟩ := hg
  obtain ⟨hs, A, c, hb, hE⟩ := h
  have c0 : w.cell? ⟨g, 4, none⟩ = some (.slice A n c) := hb.cell 4
  have c1 : w.cell? ⟨g, 5, none⟩ = some (.int .i64 s) := hb.cell 5
  have hsl := fun W => slice_e A n c s hs hE.1 W
  have hI0 : HToI X w g n c s 0 A es r w := ⟨hb, hE, Kp.refl _ _⟩
  have HI0 := Lib.hid hI0
  have HBAD : Hid (∀ j, j < n → ∃ q : Nat, (es j).b = q ∧ q < 4) := Lib.hid fun j hj => ⟨((es j).b).toNat, by have := hb0 j hj; omega, by have := hb0 j hj; have := (bad_zero (hbad j hj)).1; omega⟩
  have HA2 : Hid (∀ wr, EOwn wr A n c es → FRow wr 3 (if c = s then A else A.map (·.add (s * 3))) (n - s) (fun i => iibV .i64 .u8 (es (s + i)))) := Lib.hid fun wr h => FRow.from_ h.2.2.1 hs h.1
  generalize (if c = s then A else A.map (·.add (s * 3))) = A2 at *
  obtain ⟨m, hm⟩ : ∃ m, n - s = m := ⟨_, rfl⟩
  rw [hm] at HA2
  have hm2 : s + m = n := by omega
  have hm3 : m ≤ 1000 := by omega
  simp only [hm] at hsl
  have HM := Lib.hid hm2
  clear hb hE hI0 hbad hb0 hm hm2
  go_enter Tryz.func155, Tryz.ntmps155
  go_wp2_with fail
  go_step3
  go_wp2_with fail
  go_step3
  go_wp2_with fail
  go_quiet (fail)
  go_wp2_with fail
  have hK0 : HToI X w g n c s 0 A es r (w.drewN nq) := ⟨HI0.out.1.drewN _, HI0.out.2.1.kp (L := []) ((Kp.refl _ _).drewN _) (fun x hx => by cases hx), (Kp.refl _ _).drewN _⟩
  have HK0 := Lib.hid hK0
  clear hK0 c0 c1 hsl
  go_loopw [18] (fun i wr => ∃ k : Nat, k ≤ m ∧ i = .int .i64 k ∧ (∀ j, j < k → (es (s + j)).a ≤ t) ∧ HToI X w g n c s k A es r wr) (fun i _ => m - (intOf i).toNat)
  case atStart => exact ⟨0, by omega, rfl, fun j hj => absurd hj (by omega), HK0.out⟩
  case round =>
    obtain ⟨k, hk, rfl, hok, hI⟩ := hrel
    have hpk : pass es n t s = pass es n t (s + k) := pass_run k (fun i hi => ⟨by have := HM.out; omega, hok i hi⟩)
    have HPK := Lib.hid hpk
    clear hpk HK0 HI0
    by_cases hlt : k < m
    · obtain ⟨hb, hE, hK⟩ := hI
      obtain ⟨ad, e2, hl, d0, d1, d2⟩ := FRow.at_ (HA2.out wr hE) k hlt
      subst e2
      replace d0 : wr.cell? (ad.add (k * 3)) = some (.int .i64 (es (s + k)).a) := d0 (by decide)
      replace d1 : wr.cell? ⟨(ad.add (k * 3)).block, (ad.add (k * 3)).off + 1, none⟩ = some (.int .u8 (es (s + k)).b) := d1 (by decide)
      replace d2 : wr.cell? ⟨(ad.add (k * 3)).block, (ad.add (k * 3)).off + 2, none⟩ = some (.bool (es (s + k)).c) := d2 (by decide)
      obtain ⟨q, hq, hq4⟩ := HBAD.out (s + k) (by have := HM.out; omega)
      obtain ⟨x, hx⟩ : ∃ x, (es (s + k)).a = x := ⟨_, rfl⟩
      obtain ⟨z, hz⟩ : ∃ z, (es (s + k)).c = z := ⟨_, rfl⟩
      rw [hx] at d0
      rw [hq] at d1
      rw [hz] at d2
      have HX := Lib.hid hx
      have HQ := Lib.hid hq
      have HZ := Lib.hid hz
      have HOK := Lib.hid hok
      have hne : g ≠ wr.heap.size := fun e => by have := hb.lt; omega
      have HB := Lib.hid (hb.alloc (.cells #[.int .i64 x, .int .u8 q, .bool z] 154))
      have HE := Lib.hid (hE.keep ((Below.refl wr.heap.size wr).alloc (Nat.le_refl _) (.cells #[.int .i64 x, .int .u8 q, .bool z] 154)))
      have HK := Lib.hid (hK.alloc (.cells #[.int .i64 x, .int .u8 q, .bool z] 154))
      have HN := Lib.hid (Blk.new wr 154 #[.int .i64 x, .int .u8 q, .bool z])
      clear hx hq hz hok hb hE hK
      by_cases h1 : t < x
      · have e : pass es n t s = s + k := by rw [HPK.out]; exact pass_stop (.inr (by rw [HX.out]; exact h1))
        have hsk : s + k - s = k := by omega
        rw [e, hsk]
        go_wp2_with fail
        (try rw [Exit.noGoto_ret])
        first | go_end0 | refine bodyPost_ret (results_none rfl _ _ _) rfl ?_
        exact ⟨rfl, ⟨by have := HM.out; omega, A, c, HB.out, HE.out⟩, HK.out⟩
      · have hxt : x ≤ t := by omega
        have q0 : (0 : Int) ≤ q := by omega
        have q4 : (q : Int) < 4 := by omega
        have cq : (wr.alloc (.cells #[.int .i64 x, .int .u8 q, .bool z] 154)).cell? ⟨g, 6 + q, none⟩ = some (.bool (upTo es (s + k) q)) := by rw [HB.out.cell, hpL_up X _ _ _ _ _ _ _ hq4]
        have c1 : (wr.alloc (.cells #[.int .i64 x, .int .u8 q, .bool z] 154)).cell? ⟨g, 5, none⟩ = some (.int .i64 (s + k : Nat)) := HB.out.cell 5
        have c6 : (wr.alloc (.cells #[.int .i64 x, .int .u8 q, .bool z] 154)).cell? ⟨g, 10, none⟩ = some (.bool (roseTo es r s k)) := HB.out.cell 10
        have e0 : (wr.alloc (.cells #[.int .i64 x, .int .u8 q, .bool z] 154)).cell? ⟨wr.heap.size, 0, none⟩ = some (.int .i64 x) := HN.out.cell 0
        have e1 : (wr.alloc (.cells #[.int .i64 x, .int .u8 q, .bool z] 154)).cell? ⟨wr.heap.size, 1, none⟩ = some (.int .u8 q) := HN.out.cell 1
        have e2 : (wr.alloc (.cells #[.int .i64 x, .int .u8 q, .bool z] 154)).cell? ⟨wr.heap.size, 2, none⟩ = some (.bool z) := HN.out.cell 2
        have fq := HB.out.frozen (6 + q)
        have f1 := HB.out.frozen 5
        have f6 := HB.out.frozen 10
        by_cases h3 : q = 1
        · subst h3
          have QW : (.cells #[.int .i64 x, .int .u8 ((1 : Nat) : Int), .bool z] 154 : Obj) = (.cells #[.int .i64 x, .int .u8 1, .bool z] 154) := rfl
          rw [QW] at HB HE HK HN cq c1 c6 e0 e1 e2 fq f1 f6
          clear QW
          replace cq : (wr.alloc (.cells #[.int .i64 x, .int .u8 1, .bool z] 154)).cell? ⟨g, 7, none⟩ = some (.bool (upTo es (s + k) ((1 : Nat) : Int))) := cq
          replace e1 : (wr.alloc (.cells #[.int .i64 x, .int .u8 1, .bool z] 154)).cell? ⟨wr.heap.size, 1, none⟩ = some (.int .u8 1) := e1
          replace d1 : wr.cell? ⟨(ad.add (k * 3)).block, (ad.add (k * 3)).off + 1, none⟩ = some (.int .u8 1) := d1
          replace fq : (wr.alloc (.cells #[.int .i64 x, .int .u8 1, .bool z] 154)).frozen? ⟨g, 7, none⟩ = false := fq
          clear q0 q4
          cases z with
          | false =>
            go_wp2_with fail
            have HB2 := HB
            have HE2 := HE
            have HK2 := HK
            have HN2 := HN
            generalize World.alloc wr _ = w2 at *
            generalize wr.heap.size = eb at *
            have hro : roseTo es r s (k + 1) = roseTo es r s k := by
              simp only [roseTo]; rw [HQ.out, HZ.out]; simp
            have HRO := Lib.hid hro
            clear hro
            have hb3 := HB2.out.set_ (6 + 1) (.bool false)
            rw [hpL_set X _ _ _ _ _ _ _ hq4] at hb3
            have hup : (fun i : Nat => if i = 1 then false else upTo es (s + k) i) = fun i : Nat => upTo es (s + (k + 1)) i := by
              funext i
              rw [← Nat.add_assoc, up_step, HQ.out, HZ.out]
              by_cases e : i = 1
              · subst e; simp
              · rw [if_neg e, if_neg (by omega)]
            have g1 : (w2.setCell ⟨g, 7, none⟩ (.bool false)).cell? ⟨g, 5, none⟩ = some (.int .i64 (s + k : Nat)) := hb3.cell 5
            have h1' : (w2.setCell ⟨g, 7, none⟩ (.bool false)).frozen? ⟨g, 5, none⟩ = false := hb3.frozen 5
            rw [hup] at hb3
            have ev : (Value.int .i64 ((s : Int) + k + 1)) = .int .i64 ((s + (k + 1) : Nat) : Int) := by rw [show (s : Int) + k + 1 = ((s + (k + 1) : Nat) : Int) by omega]
            have hb4 : Blk ((w2.setCell ⟨g, 7, none⟩ (.bool false)).setCell ⟨g, 5, none⟩ (.int .i64 ((s : Int) + k + 1))) g 99 (hpL X A n c (s + (k + 1)) (fun i => upTo es (s + (k + 1)) i) (roseTo es r s (k + 1))) := by rw [ev, HRO.out]; exact hb3.set_ 5 _
            have kp : Kp [g] w2 ((w2.setCell ⟨g, 7, none⟩ (.bool false)).setCell ⟨g, 5, none⟩ (.int .i64 ((s : Int) + k + 1))) := ((Kp.refl _ _).setCell (.inl (by simp)) _).setCell (.inl (by simp)) _
            have hE4 := HE2.out.kp kp (htyped_off HB2.out)
            have hK4 := HK2.out.trans kp (by simp)
            have HI4 : Hid (HToI X w g n c s (k + 1) A es r ((w2.setCell ⟨g, 7, none⟩ (.bool false)).setCell ⟨g, 5, none⟩ (.int .i64 ((s : Int) + k + 1))).drew) := Lib.hid ⟨hb4.drew_, hE4.kp (L := []) (Kp.refl _ _).drew (fun x hx => by cases hx), hK4.drew⟩
            clear hb3 hb4 kp hE4 hK4 hup ev
            go_region
            all_goals
              go_wp2_with fail
              go_roundw
              case rel =>
                refine ⟨k + 1, by omega, by go_num, fun j hj => ?_, HI4.out⟩
                by_cases e : j = k
                · subst e; rw [HX.out]; exact hxt
                · exact HOK.out j (by omega)
              case measure => simp [intOf]; omega
          | true =>
            obtain ⟨u0, hu0⟩ : ∃ u, upTo es (s + k) ((1 : Nat) : Int) = u := ⟨_, rfl⟩
            obtain ⟨r0, hr0⟩ : ∃ u, roseTo es r s k = u := ⟨_, rfl⟩
            have hu1 : upTo es (s + k) 1 = u0 := hu0
            rw [hu0] at cq
            rw [hr0] at c6
            rw [hr0] at HB
            have HU0 := Lib.hid hu1
            have HR0 := Lib.hid hr0
            clear hu0 hu1 hr0
            cases r0
            · go_wp2_with fail
              clear d0 d1 d2 hl
              generalize World.alloc wr _ = w2 at *
              generalize wr.heap.size = eb at *
              go_region
              all_goals
                have hb6 := HB.out.set_ 10 (.bool (!u0))
                have kp6 : Kp [g] w2 ((w2.setCell ⟨g, 10, none⟩ (.bool (!u0))).drew) := ((Kp.refl _ _).setCell (.inl (by simp)) _).drew
                have HB2 : Hid (Blk ((w2.setCell ⟨g, 10, none⟩ (.bool (!u0))).drew) g 99 (hpL X A n c (s + k) (fun j => upTo es (s + k) j) (!u0))) := Lib.hid hb6
                have HE2 := Lib.hid (HE.out.kp kp6 (htyped_off HB.out))
                have HK2 := Lib.hid (HK.out.trans kp6 (by simp))
                have HN2 := Lib.hid ((HN.out.kp kp6 (by simp; exact fun e => hne e.symm)))
                have cq2 : ((w2.setCell ⟨g, 10, none⟩ (.bool (!u0))).drew).cell? ⟨g, 7, none⟩ = some (.bool (upTo es (s + k) ((1 : Nat) : Int))) := HB2.out.cell 7
                have c12 : ((w2.setCell ⟨g, 10, none⟩ (.bool (!u0))).drew).cell? ⟨g, 5, none⟩ = some (.int .i64 (s + k : Nat)) := HB2.out.cell 5
                have e12 : ((w2.setCell ⟨g, 10, none⟩ (.bool (!u0))).drew).cell? ⟨eb, 1, none⟩ = some (.int .u8 1) := HN2.out.cell 1
                have e22 : ((w2.setCell ⟨g, 10, none⟩ (.bool (!u0))).drew).cell? ⟨eb, 2, none⟩ = some (.bool true) := HN2.out.cell 2
                rw [show upTo es (s + k) ((1 : Nat) : Int) = u0 from HU0.out] at cq2
                have fq2 := HB2.out.frozen 7
                have f12 := HB2.out.frozen 5
                clear cq c1 c6 e0 e1 e2 fq f1 f6 hb6 kp6 HB HE HK HN
                generalize World.drew _ = w3 at *
                go_wp2_with fail
                have hro : roseTo es r s (k + 1) = (!u0) := by
                  simp only [roseTo]; rw [HQ.out, HZ.out, HR0.out, HU0.out]; simp
                have HRO := Lib.hid hro
                clear hro
                have hb3 := HB2.out.set_ (6 + 1) (.bool true)
                rw [hpL_set X _ _ _ _ _ _ _ hq4] at hb3
                have hup : (fun i : Nat => if i = 1 then true else upTo es (s + k) i) = fun i : Nat => upTo es (s + (k + 1)) i := by
                  funext i
                  rw [← Nat.add_assoc, up_step, HQ.out, HZ.out]
                  by_cases e : i = 1
                  · subst e; simp
                  · rw [if_neg e, if_neg (by omega)]
                have g1 : (w3.setCell ⟨g, 7, none⟩ (.bool true)).cell? ⟨g, 5, none⟩ = some (.int .i64 (s + k : Nat)) := hb3.cell 5
                have h1' : (w3.setCell ⟨g, 7, none⟩ (.bool true)).frozen? ⟨g, 5, none⟩ = false := hb3.frozen 5
                rw [hup] at hb3
                have ev : (Value.int .i64 ((s : Int) + k + 1)) = .int .i64 ((s + (k + 1) : Nat) : Int) := by rw [show (s : Int) + k + 1 = ((s + (k + 1) : Nat) : Int) by omega]
                have hb4 : Blk ((w3.setCell ⟨g, 7, none⟩ (.bool true)).setCell ⟨g, 5, none⟩ (.int .i64 ((s : Int) + k + 1))) g 99 (hpL X A n c (s + (k + 1)) (fun i => upTo es (s + (k + 1)) i) (roseTo es r s (k + 1))) := by rw [ev, HRO.out]; exact hb3.set_ 5 _
                have kp : Kp [g] w3 ((w3.setCell ⟨g, 7, none⟩ (.bool true)).setCell ⟨g, 5, none⟩ (.int .i64 ((s : Int) + k + 1))) := ((Kp.refl _ _).setCell (.inl (by simp)) _).setCell (.inl (by simp)) _
                have hE4 := HE2.out.kp kp (htyped_off HB2.out)
                have hK4 := HK2.out.trans kp (by simp)
                have HI4 : Hid (HToI X w g n c s (k + 1) A es r ((w3.setCell ⟨g, 7, none⟩ (.bool true)).setCell ⟨g, 5, none⟩ (.int .i64 ((s : Int) + k + 1))).drew) := Lib.hid ⟨hb4.drew_, hE4.kp (L := []) (Kp.refl _ _).drew (fun x hx => by cases hx), hK4.drew⟩
                clear hb3 hb4 kp hE4 hK4 hup ev
                go_region
                all_goals
                  go_wp2_with fail
                  go_roundw
                  case rel =>
                    refine ⟨k + 1, by omega, by go_num, fun j hj => ?_, HI4.out⟩
                    by_cases e : j = k
                    · subst e; rw [HX.out]; exact hxt
                    · exact HOK.out j (by omega)
                  case measure => simp [intOf]; omega
            · go_wp2_with fail
              clear d0 d1 d2 hl
              generalize World.alloc wr _ = w2 at *
              generalize wr.heap.size = eb at *
              go_region
              all_goals
                have hb6 := HB.out.set_ 10 (.bool true)
                have kp6 : Kp [g] w2 ((w2.setCell ⟨g, 10, none⟩ (.bool true)).drew) := ((Kp.refl _ _).setCell (.inl (by simp)) _).drew
                have HB2 : Hid (Blk ((w2.setCell ⟨g, 10, none⟩ (.bool true)).drew) g 99 (hpL X A n c (s + k) (fun j => upTo es (s + k) j) true)) := Lib.hid hb6
                have HE2 := Lib.hid (HE.out.kp kp6 (htyped_off HB.out))
                have HK2 := Lib.hid (HK.out.trans kp6 (by simp))
                have HN2 := Lib.hid ((HN.out.kp kp6 (by simp; exact fun e => hne e.symm)))
                have cq2 : ((w2.setCell ⟨g, 10, none⟩ (.bool true)).drew).cell? ⟨g, 7, none⟩ = some (.bool (upTo es (s + k) ((1 : Nat) : Int))) := HB2.out.cell 7
                have c12 : ((w2.setCell ⟨g, 10, none⟩ (.bool true)).drew).cell? ⟨g, 5, none⟩ = some (.int .i64 (s + k : Nat)) := HB2.out.cell 5
                have e12 : ((w2.setCell ⟨g, 10, none⟩ (.bool true)).drew).cell? ⟨eb, 1, none⟩ = some (.int .u8 1) := HN2.out.cell 1
                have e22 : ((w2.setCell ⟨g, 10, none⟩ (.bool true)).drew).cell? ⟨eb, 2, none⟩ = some (.bool true) := HN2.out.cell 2
                rw [show upTo es (s + k) ((1 : Nat) : Int) = u0 from HU0.out] at cq2
                have fq2 := HB2.out.frozen 7
                have f12 := HB2.out.frozen 5
                clear cq c1 c6 e0 e1 e2 fq f1 f6 hb6 kp6 HB HE HK HN
                generalize World.drew _ = w3 at *
                go_wp2_with fail
                have hro : roseTo es r s (k + 1) = true := by
                  simp only [roseTo]; rw [HR0.out]; simp
                have HRO := Lib.hid hro
                clear hro
                have hb3 := HB2.out.set_ (6 + 1) (.bool true)
                rw [hpL_set X _ _ _ _ _ _ _ hq4] at hb3
                have hup : (fun i : Nat => if i = 1 then true else upTo es (s + k) i) = fun i : Nat => upTo es (s + (k + 1)) i := by
                  funext i
                  rw [← Nat.add_assoc, up_step, HQ.out, HZ.out]
                  by_cases e : i = 1
                  · subst e; simp
                  · rw [if_neg e, if_neg (by omega)]
                have g1 : (w3.setCell ⟨g, 7, none⟩ (.bool true)).cell? ⟨g, 5, none⟩ = some (.int .i64 (s + k : Nat)) := hb3.cell 5
                have h1' : (w3.setCell ⟨g, 7, none⟩ (.bool true)).frozen? ⟨g, 5, none⟩ = false := hb3.frozen 5
                rw [hup] at hb3
                have ev : (Value.int .i64 ((s : Int) + k + 1)) = .int .i64 ((s + (k + 1) : Nat) : Int) := by rw [show (s : Int) + k + 1 = ((s + (k + 1) : Nat) : Int) by omega]
                have hb4 : Blk ((w3.setCell ⟨g, 7, none⟩ (.bool true)).setCell ⟨g, 5, none⟩ (.int .i64 ((s : Int) + k + 1))) g 99 (hpL X A n c (s + (k + 1)) (fun i => upTo es (s + (k + 1)) i) (roseTo es r s (k + 1))) := by rw [ev, HRO.out]; exact hb3.set_ 5 _
                have kp : Kp [g] w3 ((w3.setCell ⟨g, 7, none⟩ (.bool true)).setCell ⟨g, 5, none⟩ (.int .i64 ((s : Int) + k + 1))) := ((Kp.refl _ _).setCell (.inl (by simp)) _).setCell (.inl (by simp)) _
                have hE4 := HE2.out.kp kp (htyped_off HB2.out)
                have hK4 := HK2.out.trans kp (by simp)
                have HI4 : Hid (HToI X w g n c s (k + 1) A es r ((w3.setCell ⟨g, 7, none⟩ (.bool true)).setCell ⟨g, 5, none⟩ (.int .i64 ((s : Int) + k + 1))).drew) := Lib.hid ⟨hb4.drew_, hE4.kp (L := []) (Kp.refl _ _).drew (fun x hx => by cases hx), hK4.drew⟩
                clear hb3 hb4 kp hE4 hK4 hup ev
                go_region
                all_goals
                  go_wp2_with fail
                  go_roundw
                  case rel =>
                    refine ⟨k + 1, by omega, by go_num, fun j hj => ?_, HI4.out⟩
                    by_cases e : j = k
                    · subst e; rw [HX.out]; exact hxt
                    · exact HOK.out j (by omega)
                  case measure => simp [intOf]; omega
        · have t3 : ((q : Int) == 1) = false := by simp; omega
          go_wp2_with fail
          have HB2 := HB
          have HE2 := HE
          have HK2 := HK
          have HN2 := HN
          generalize World.alloc wr _ = w2 at *
          generalize wr.heap.size = eb at *
          have hro : roseTo es r s (k + 1) = roseTo es r s k := by
            simp only [roseTo]; rw [HQ.out, t3]; simp
          have HRO := Lib.hid hro
          clear hro
          have hb3 := HB2.out.set_ (6 + q) (.bool z)
          rw [hpL_set X _ _ _ _ _ _ _ hq4] at hb3
          have hup : (fun i : Nat => if i = q then z else upTo es (s + k) i) = fun i : Nat => upTo es (s + (k + 1)) i := by
            funext i
            rw [← Nat.add_assoc, up_step, HQ.out, HZ.out]
            by_cases e : i = q
            · subst e; simp
            · rw [if_neg e, if_neg (by omega)]
          have g1 : (w2.setCell ⟨g, 6 + q, none⟩ (.bool z)).cell? ⟨g, 5, none⟩ = some (.int .i64 (s + k : Nat)) := hb3.cell 5
          have h1' : (w2.setCell ⟨g, 6 + q, none⟩ (.bool z)).frozen? ⟨g, 5, none⟩ = false := hb3.frozen 5
          rw [hup] at hb3
          have ev : (Value.int .i64 ((s : Int) + k + 1)) = .int .i64 ((s + (k + 1) : Nat) : Int) := by rw [show (s : Int) + k + 1 = ((s + (k + 1) : Nat) : Int) by omega]
          have hb4 : Blk ((w2.setCell ⟨g, 6 + q, none⟩ (.bool z)).setCell ⟨g, 5, none⟩ (.int .i64 ((s : Int) + k + 1))) g 99 (hpL X A n c (s + (k + 1)) (fun i => upTo es (s + (k + 1)) i) (roseTo es r s (k + 1))) := by rw [ev, HRO.out]; exact hb3.set_ 5 _
          have kp : Kp [g] w2 ((w2.setCell ⟨g, 6 + q, none⟩ (.bool z)).setCell ⟨g, 5, none⟩ (.int .i64 ((s : Int) + k + 1))) := ((Kp.refl _ _).setCell (.inl (by simp)) _).setCell (.inl (by simp)) _
          have hE4 := HE2.out.kp kp (htyped_off HB2.out)
          have hK4 := HK2.out.trans kp (by simp)
          have HI4 : Hid (HToI X w g n c s (k + 1) A es r ((w2.setCell ⟨g, 6 + q, none⟩ (.bool z)).setCell ⟨g, 5, none⟩ (.int .i64 ((s : Int) + k + 1))).drew) := Lib.hid ⟨hb4.drew_, hE4.kp (L := []) (Kp.refl _ _).drew (fun x hx => by cases hx), hK4.drew⟩
          clear hb3 hb4 kp hE4 hK4 hup ev
          go_region
          all_goals
            go_wp2_with fail
            go_roundw
            case rel =>
              refine ⟨k + 1, by omega, by go_num, fun j hj => ?_, HI4.out⟩
              by_cases e : j = k
              · subst e; rw [HX.out]; exact hxt
              · exact HOK.out j (by omega)
            case measure => simp [intOf]; omega
    · obtain rfl : k = m := by omega
      have e : pass es n t s = s + k := by rw [HPK.out]; exact pass_stop (.inl (by have := HM.out; omega))
      have hsk : s + k - s = k := by omega
      rw [e, hsk]
      obtain ⟨hb, hE, hK⟩ := hI
      have HB := Lib.hid hb
      have HE := Lib.hid hE
      have HK := Lib.hid hK
      clear hb hE hK hok
      go_wp2_with fail
      (try rw [Exit.noGoto_ret])
      first | go_end0 | refine bodyPost_ret (results_none rfl _ _ _) rfl ?_
      exact ⟨rfl, ⟨by have := HM.out; omega, A, c, HB.out, HE.out⟩, HK.out⟩
end Go.Proofs.YtleofglnlfpoeaaGreat
