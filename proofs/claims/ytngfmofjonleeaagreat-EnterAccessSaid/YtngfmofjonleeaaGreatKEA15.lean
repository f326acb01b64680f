/-
  Texts of these proofs, one behind the other: Lin6, Hln, Lin8.
-/
import Derived.Test.YtngfmofjonleeaaGreatKEA14
import Derived.StillTailTactics
import Derived.BigRegion
import Derived.Deep.Cut
import Derived.Deep.CutRange
import Derived.Deep.RegionWith
import Derived.Deep.RegionHeld3
namespace Go.Proofs.YtngfmofjonleeaaGreat
open Go.RowKit
set_option linter.unusedVariables false
set_option linter.unusedSimpArgs false
set_option maxRecDepth 100000
theorem slice_e (A : Option Addr) (n c e : Nat) (he : e ≤ n) (hc : n ≤ c) (W : World) : (Instr.slice 62 (.slice A n c) (some (.int .i64 (e : Int))) none none).run Tryz.prog W = .ok (.slice (if c = e then A else A.map (·.add (e * 3))) (n - e) (c - e)) W := by
  have hs : (sizeOf 150).run Tryz.prog W = .ok 3 W := by kernel_rfl
  have he' : Tryz.prog.elem 62 = 150 := by kernel_rfl
  rw [run_slice_l (P := Tryz.prog) W 62 A n c (by rw [he']; exact Tryz.underlying62) .i64 e (by omega) (by omega)]
  rw [he', hs]
  simp [Result.andThen, sliced]
theorem up_step (es : Nat → Iib) (k : Nat) (l : Int) : upTo es (k + 1) l = if (es k).b = l then (es k).c else upTo es k l := rfl
end Go.Proofs.YtngfmofjonleeaaGreat
namespace Go.Proofs.YtngfmofjonleeaaGreat
open Go.RowKit
set_option linter.unusedVariables false
set_option linter.unusedSimpArgs false
set_option maxRecDepth 100000
/-- A page's cells, lines being among them. -/
def hpL (X : Nat → Value) (A : Option Addr) (n c s : Nat) (up : Nat → Bool) (r : Bool) : Array Value :=
  #[X 0, X 1, X 2, X 3, .slice A n c, .int .i64 s, .bool (up 0), .bool (up 1), .bool (up 2), .bool (up 3), .bool r, X 11, X 12, X 13, X 14, X 15, X 16, X 17, X 18, X 19, X 20, X 21, X 22]
section
variable (X : Nat → Value)
theorem hpL_up (A : Option Addr) (n c s : Nat) (up : Nat → Bool) (r : Bool) (j : Nat) (h : j < 4) : (hpL X A n c s up r)[6 + j]? = some (.bool (up j)) := by
  have : j = 0 ∨ j = 1 ∨ j = 2 ∨ j = 3 := by omega
  rcases this with rfl | rfl | rfl | rfl <;> rfl
theorem hpL_set (A : Option Addr) (n c s : Nat) (up : Nat → Bool) (r : Bool) (j : Nat) (h : j < 4) (b : Bool) : (hpL X A n c s up r).setIfInBounds (6 + j) (.bool b) = hpL X A n c s (fun i => if i = j then b else up i) r := by
  have : j = 0 ∨ j = 1 ∨ j = 2 ∨ j = 3 := by omega
  rcases this with rfl | rfl | rfl | rfl <;> rfl
end
/-- In the page at g there are lines, s of their edges having gone by. -/
def LNH (X : Nat → Value) (w : World) (g n : Nat) (es : Nat → Iib) (s : Nat) (r : Bool) : Prop :=
  s ≤ n ∧ ∃ A c, Blk w g 92 (hpL X A n c s (fun j => upTo es s j) r) ∧ EOwn w A n c es
def HLnR (X : Nat → Value) (v : Value) (g n : Nat) (es : Nat → Iib) (s : Nat) (r : Bool) (w : World) (e : Ending) (w' : World) : Prop := e = .returned v ∧ LNH X w' g n es s r ∧ Kp [g] w w'
theorem htyped_off {w : World} {g : Nat} {cs : Array Value} (hb : Blk w g 92 cs) : ∀ x ∈ [g], ∃ t cs, Blk w x t cs ∧ 150 ≠ t := fun x hx => by
  obtain rfl : x = g := by simpa using hx
  exact ⟨_, _, hb, by decide⟩
section
variable {X : Nat → Value} {w : World} {g n : Nat} {es : Nat → Iib} {s : Nat} {r : Bool}
theorem hup_any (h : LNH X w g n es s r) (j : Nat) (hj : j ≤ 255) :
    Calls Tryz.prog 153 #[.pointer (some ⟨g, 4, none⟩), .int .u8 (j : Int)] w fun e w' => e = .returned (.bool (upV es s j)) ∧ w = w' := by
  obtain ⟨_, A, c, hb, _⟩ := h
  by_cases h4 : j < 4
  · have e : upV es s j = upTo es s j := by unfold upV; rw [if_pos h4]
    rw [e]
    clear e
    have c0 : w.cell? ⟨g, 6 + j, none⟩ = some (.bool (upTo es s j)) := by rw [hb.cell, hpL_up X _ _ _ _ _ _ _ h4]
    have i0 : (0 : Int) ≤ (j : Int) := by omega
    have i4 : (j : Int) < 4 := by omega
    clear hb
    go_enter Tryz.func153, Tryz.ntmps153
    go_wp2
    go_ret
    exact ⟨rfl, rfl⟩
  · have e : upV es s j = false := by unfold upV; rw [if_neg h4]
    rw [e]
    clear e hb
    have i4 : ¬ (j : Int) < 4 := by omega
    go_enter Tryz.func153, Tryz.ntmps153
    go_wp2
    go_ret
    exact ⟨rfl, rfl⟩
end
/-- What of lines has gone by: the part of a loop's relation that speaks of memory. -/
def HToI (X : Nat → Value) (w : World) (g n c s k : Nat) (A : Option Addr) (es : Nat → Iib) (r : Bool) (wr : World) : Prop :=
  Blk wr g 92 (hpL X A n c (s + k) (fun j => upTo es (s + k) j) (roseTo es r s k)) ∧ EOwn wr A n c es ∧ Kp [g] w wr
set_option maxHeartbeats 4000000 in
theorem hto_any {X : Nat → Value} {w : World} {g n : Nat} {es : Nat → Iib} {s : Nat} {r : Bool} (h : LNH X w g n es s r) (hg : Good n es) (t : Int) :
    Calls Tryz.prog 122 #[.pointer (some ⟨g, 4, none⟩), .int .i64 t] w (HLnR X (.tuple #[]) g n es (pass es n t s) (roseTo es r s (pass es n t s - s)) w) := by
  obtain ⟨hn, hbad, hb0⟩ := hg
  obtain ⟨hs, A, c, hb, hE⟩ := h
  have c0 : w.cell? ⟨g, 4, none⟩ = some (.slice A n c) := hb.cell 4
  have c1 : w.cell? ⟨g, 5, none⟩ = some (.int .i64 s) := hb.cell 5
  have hsl := fun W => slice_e A n c s hs hE.1 W
  have hI0 : HToI X w g n c s 0 A es r w := ⟨hb, hE, Kp.refl _ _⟩
  have HI0 := Lib.hid hI0
  have HBAD : Hid (∀ j, j < n → ∃ q : Nat, (es j).b = q ∧ q < 4) := Lib.hid fun j hj => ⟨((es j).b).toNat, by have := hb0 j hj; omega, by have := hb0 j hj; have := (bad_zero (hbad j hj)).1; omega⟩
  have HA2 : Hid (∀ wr, EOwn wr A n c es → FRow wr 3 (if c = s then A else A.map (·.add (s * 3))) (n - s) (fun i => iibV .i64 .u8 (es (s + i)))) := Lib.hid fun wr h => FRow.from_ h.2.2.1 hs h.1
  generalize (if c = s then A else A.map (·.add (s * 3))) = A2 at *
  obtain ⟨m, hm⟩ : ∃ m, n - s = m := ⟨_, rfl⟩
  rw [hm] at HA2
  have hm2 : s + m = n := by omega
  have hm3 : m ≤ 1000 := by omega
  simp only [hm] at hsl
  have HM := Lib.hid hm2
  clear hb hE hI0 hbad hb0 hm hm2
  go_enter Tryz.func122, Tryz.ntmps122
  go_wp2_with fail
  go_step3
  go_wp2_with fail
  go_step3
  go_wp2_with fail
  go_quiet (fail)
  go_wp2_with fail
  have hK0 : HToI X w g n c s 0 A es r (w.drewN nq) := ⟨HI0.out.1.drewN _, HI0.out.2.1.kp (L := []) ((Kp.refl _ _).drewN _) (fun x hx => by cases hx), (Kp.refl _ _).drewN _⟩
  have HK0 := Lib.hid hK0
  clear hK0 c0 c1 hsl
  go_loopw [18] (fun i wr => ∃ k : Nat, k ≤ m ∧ i = .int .i64 k ∧ (∀ j, j < k → (es (s + j)).a ≤ t) ∧ HToI X w g n c s k A es r wr) (fun i _ => m - (intOf i).toNat)
  case atStart => exact ⟨0, by omega, rfl, fun j hj => absurd hj (by omega), HK0.out⟩
  case round =>
    obtain ⟨k, hk, rfl, hok, hI⟩ := hrel
    have hpk : pass es n t s = pass es n t (s + k) := pass_run k (fun i hi => ⟨by have := HM.out; omega, hok i hi⟩)
    have HPK := Lib.hid hpk
    clear hpk HK0 HI0
    by_cases hlt : k < m
    · obtain ⟨hb, hE, hK⟩ := hI
      obtain ⟨ad, e2, hl, d0, d1, d2⟩ := FRow.at_ (HA2.out wr hE) k hlt
      subst e2
      replace d0 : wr.cell? (ad.add (k * 3)) = some (.int .i64 (es (s + k)).a) := d0 (by decide)
      replace d1 : wr.cell? ⟨(ad.add (k * 3)).block, (ad.add (k * 3)).off + 1, none⟩ = some (.int .u8 (es (s + k)).b) := d1 (by decide)
      replace d2 : wr.cell? ⟨(ad.add (k * 3)).block, (ad.add (k * 3)).off + 2, none⟩ = some (.bool (es (s + k)).c) := d2 (by decide)
      obtain ⟨q, hq, hq4⟩ := HBAD.out (s + k) (by have := HM.out; omega)
      obtain ⟨x, hx⟩ : ∃ x, (es (s + k)).a = x := ⟨_, rfl⟩
      obtain ⟨z, hz⟩ : ∃ z, (es (s + k)).c = z := ⟨_, rfl⟩
      rw [hx] at d0
      rw [hq] at d1
      rw [hz] at d2
      have HX := Lib.hid hx
      have HQ := Lib.hid hq
      have HZ := Lib.hid hz
      have HOK := Lib.hid hok
      have hne : g ≠ wr.heap.size := fun e => by have := hb.lt; omega
      have HB := Lib.hid (hb.alloc (.cells #[.int .i64 x, .int .u8 q, .bool z] 150))
      have HE := Lib.hid (hE.keep ((Below.refl wr.heap.size wr).alloc (Nat.le_refl _) (.cells #[.int .i64 x, .int .u8 q, .bool z] 150)))
      have HK := Lib.hid (hK.alloc (.cells #[.int .i64 x, .int .u8 q, .bool z] 150))
      have HN := Lib.hid (Blk.new wr 150 #[.int .i64 x, .int .u8 q, .bool z])
      clear hx hq hz hok hb hE hK
      by_cases h1 : t < x
      · have e : pass es n t s = s + k := by rw [HPK.out]; exact pass_stop (.inr (by rw [HX.out]; exact h1))
        have hsk : s + k - s = k := by omega
        rw [e, hsk]
        go_wp2_with fail
        (try rw [Exit.noGoto_ret])
        first | go_end0 | refine bodyPost_ret (results_none rfl _ _ _) rfl ?_
        exact ⟨rfl, ⟨by have := HM.out; omega, A, c, HB.out, HE.out⟩, HK.out⟩
      · have hxt : x ≤ t := by omega
        have q0 : (0 : Int) ≤ q := by omega
        have q4 : (q : Int) < 4 := by omega
        have cq : (wr.alloc (.cells #[.int .i64 x, .int .u8 q, .bool z] 150)).cell? ⟨g, 6 + q, none⟩ = some (.bool (upTo es (s + k) q)) := by rw [HB.out.cell, hpL_up X _ _ _ _ _ _ _ hq4]
        have c1 : (wr.alloc (.cells #[.int .i64 x, .int .u8 q, .bool z] 150)).cell? ⟨g, 5, none⟩ = some (.int .i64 (s + k : Nat)) := HB.out.cell 5
        have c6 : (wr.alloc (.cells #[.int .i64 x, .int .u8 q, .bool z] 150)).cell? ⟨g, 10, none⟩ = some (.bool (roseTo es r s k)) := HB.out.cell 10
        have e0 : (wr.alloc (.cells #[.int .i64 x, .int .u8 q, .bool z] 150)).cell? ⟨wr.heap.size, 0, none⟩ = some (.int .i64 x) := HN.out.cell 0
        have e1 : (wr.alloc (.cells #[.int .i64 x, .int .u8 q, .bool z] 150)).cell? ⟨wr.heap.size, 1, none⟩ = some (.int .u8 q) := HN.out.cell 1
        have e2 : (wr.alloc (.cells #[.int .i64 x, .int .u8 q, .bool z] 150)).cell? ⟨wr.heap.size, 2, none⟩ = some (.bool z) := HN.out.cell 2
        have fq := HB.out.frozen (6 + q)
        have f1 := HB.out.frozen 5
        have f6 := HB.out.frozen 10
        by_cases h3 : q = 1
        · subst h3
          have QW : (.cells #[.int .i64 x, .int .u8 ((1 : Nat) : Int), .bool z] 150 : Obj) = (.cells #[.int .i64 x, .int .u8 1, .bool z] 150) := rfl
          rw [QW] at HB HE HK HN cq c1 c6 e0 e1 e2 fq f1 f6
          clear QW
          replace cq : (wr.alloc (.cells #[.int .i64 x, .int .u8 1, .bool z] 150)).cell? ⟨g, 7, none⟩ = some (.bool (upTo es (s + k) ((1 : Nat) : Int))) := cq
          replace e1 : (wr.alloc (.cells #[.int .i64 x, .int .u8 1, .bool z] 150)).cell? ⟨wr.heap.size, 1, none⟩ = some (.int .u8 1) := e1
          replace d1 : wr.cell? ⟨(ad.add (k * 3)).block, (ad.add (k * 3)).off + 1, none⟩ = some (.int .u8 1) := d1
          replace fq : (wr.alloc (.cells #[.int .i64 x, .int .u8 1, .bool z] 150)).frozen? ⟨g, 7, none⟩ = false := fq
          clear q0 q4
          cases z with
          | false =>
            go_wp2_with fail
            have HB2 := HB
            have HE2 := HE
            have HK2 := HK
            have HN2 := HN
            generalize World.alloc wr _ = w2 at *
            generalize wr.heap.size = eb at *
            have hro : roseTo es r s (k + 1) = roseTo es r s k := by
              simp only [roseTo]; rw [HQ.out, HZ.out]; simp
            have HRO := Lib.hid hro
            clear hro
            have hb3 := HB2.out.set_ (6 + 1) (.bool false)
            rw [hpL_set X _ _ _ _ _ _ _ hq4] at hb3
            have hup : (fun i : Nat => if i = 1 then false else upTo es (s + k) i) = fun i : Nat => upTo es (s + (k + 1)) i := by
              funext i
              rw [← Nat.add_assoc, up_step, HQ.out, HZ.out]
              by_cases e : i = 1
              · subst e; simp
              · rw [if_neg e, if_neg (by omega)]
            have g1 : (w2.setCell ⟨g, 7, none⟩ (.bool false)).cell? ⟨g, 5, none⟩ = some (.int .i64 (s + k : Nat)) := hb3.cell 5
            have h1' : (w2.setCell ⟨g, 7, none⟩ (.bool false)).frozen? ⟨g, 5, none⟩ = false := hb3.frozen 5
            rw [hup] at hb3
            have ev : (Value.int .i64 ((s : Int) + k + 1)) = .int .i64 ((s + (k + 1) : Nat) : Int) := by rw [show (s : Int) + k + 1 = ((s + (k + 1) : Nat) : Int) by omega]
            have hb4 : Blk ((w2.setCell ⟨g, 7, none⟩ (.bool false)).setCell ⟨g, 5, none⟩ (.int .i64 ((s : Int) + k + 1))) g 92 (hpL X A n c (s + (k + 1)) (fun i => upTo es (s + (k + 1)) i) (roseTo es r s (k + 1))) := by rw [ev, HRO.out]; exact hb3.set_ 5 _
            have kp : Kp [g] w2 ((w2.setCell ⟨g, 7, none⟩ (.bool false)).setCell ⟨g, 5, none⟩ (.int .i64 ((s : Int) + k + 1))) := ((Kp.refl _ _).setCell (.inl (by simp)) _).setCell (.inl (by simp)) _
            have hE4 := HE2.out.kp kp (htyped_off HB2.out)
            have hK4 := HK2.out.trans kp (by simp)
            have HI4 : Hid (HToI X w g n c s (k + 1) A es r ((w2.setCell ⟨g, 7, none⟩ (.bool false)).setCell ⟨g, 5, none⟩ (.int .i64 ((s : Int) + k + 1))).drew) := Lib.hid ⟨hb4.drew_, hE4.kp (L := []) (Kp.refl _ _).drew (fun x hx => by cases hx), hK4.drew⟩
            clear hb3 hb4 kp hE4 hK4 hup ev
            go_region
            all_goals
              go_wp2_with fail
              go_roundw
              case rel =>
                refine ⟨k + 1, by omega, by go_num, fun j hj => ?_, HI4.out⟩
                by_cases e : j = k
                · subst e; rw [HX.out]; exact hxt
                · exact HOK.out j (by omega)
              case measure => simp [intOf]; omega
          | true =>
            obtain ⟨u0, hu0⟩ : ∃ u, upTo es (s + k) ((1 : Nat) : Int) = u := ⟨_, rfl⟩
            obtain ⟨r0, hr0⟩ : ∃ u, roseTo es r s k = u := ⟨_, rfl⟩
            have hu1 : upTo es (s + k) 1 = u0 := hu0
            rw [hu0] at cq
            rw [hr0] at c6
            rw [hr0] at HB
            have HU0 := Lib.hid hu1
            have HR0 := Lib.hid hr0
            clear hu0 hu1 hr0
            cases r0
            · go_wp2_with fail
              clear d0 d1 d2 hl
              generalize World.alloc wr _ = w2 at *
              generalize wr.heap.size = eb at *
              go_region
              all_goals
                have hb6 := HB.out.set_ 10 (.bool (!u0))
                have kp6 : Kp [g] w2 ((w2.setCell ⟨g, 10, none⟩ (.bool (!u0))).drew) := ((Kp.refl _ _).setCell (.inl (by simp)) _).drew
                have HB2 : Hid (Blk ((w2.setCell ⟨g, 10, none⟩ (.bool (!u0))).drew) g 92 (hpL X A n c (s + k) (fun j => upTo es (s + k) j) (!u0))) := Lib.hid hb6
                have HE2 := Lib.hid (HE.out.kp kp6 (htyped_off HB.out))
                have HK2 := Lib.hid (HK.out.trans kp6 (by simp))
                have HN2 := Lib.hid ((HN.out.kp kp6 (by simp; exact fun e => hne e.symm)))
                have cq2 : ((w2.setCell ⟨g, 10, none⟩ (.bool (!u0))).drew).cell? ⟨g, 7, none⟩ = some (.bool (upTo es (s + k) ((1 : Nat) : Int))) := HB2.out.cell 7
                have c12 : ((w2.setCell ⟨g, 10, none⟩ (.bool (!u0))).drew).cell? ⟨g, 5, none⟩ = some (.int .i64 (s + k : Nat)) := HB2.out.cell 5
                have e12 : ((w2.setCell ⟨g, 10, none⟩ (.bool (!u0))).drew).cell? ⟨eb, 1, none⟩ = some (.int .u8 1) := HN2.out.cell 1
                have e22 : ((w2.setCell ⟨g, 10, none⟩ (.bool (!u0))).drew).cell? ⟨eb, 2, none⟩ = some (.bool true) := HN2.out.cell 2
                rw [show upTo es (s + k) ((1 : Nat) : Int) = u0 from HU0.out] at cq2
                have fq2 := HB2.out.frozen 7
                have f12 := HB2.out.frozen 5
                clear cq c1 c6 e0 e1 e2 fq f1 f6 hb6 kp6 HB HE HK HN
                generalize World.drew _ = w3 at *
                go_wp2_with fail
                have hro : roseTo es r s (k + 1) = (!u0) := by
                  simp only [roseTo]; rw [HQ.out, HZ.out, HR0.out, HU0.out]; simp
                have HRO := Lib.hid hro
                clear hro
                have hb3 := HB2.out.set_ (6 + 1) (.bool true)
                rw [hpL_set X _ _ _ _ _ _ _ hq4] at hb3
                have hup : (fun i : Nat => if i = 1 then true else upTo es (s + k) i) = fun i : Nat => upTo es (s + (k + 1)) i := by
                  funext i
                  rw [← Nat.add_assoc, up_step, HQ.out, HZ.out]
                  by_cases e : i = 1
                  · subst e; simp
                  · rw [if_neg e, if_neg (by omega)]
                have g1 : (w3.setCell ⟨g, 7, none⟩ (.bool true)).cell? ⟨g, 5, none⟩ = some (.int .i64 (s + k : Nat)) := hb3.cell 5
                have h1' : (w3.setCell ⟨g, 7, none⟩ (.bool true)).frozen? ⟨g, 5, none⟩ = false := hb3.frozen 5
                rw [hup] at hb3
                have ev : (Value.int .i64 ((s : Int) + k + 1)) = .int .i64 ((s + (k + 1) : Nat) : Int) := by rw [show (s : Int) + k + 1 = ((s + (k + 1) : Nat) : Int) by omega]
                have hb4 : Blk ((w3.setCell ⟨g, 7, none⟩ (.bool true)).setCell ⟨g, 5, none⟩ (.int .i64 ((s : Int) + k + 1))) g 92 (hpL X A n c (s + (k + 1)) (fun i => upTo es (s + (k + 1)) i) (roseTo es r s (k + 1))) := by rw [ev, HRO.out]; exact hb3.set_ 5 _
                have kp : Kp [g] w3 ((w3.setCell ⟨g, 7, none⟩ (.bool true)).setCell ⟨g, 5, none⟩ (.int .i64 ((s : Int) + k + 1))) := ((Kp.refl _ _).setCell (.inl (by simp)) _).setCell (.inl (by simp)) _
                have hE4 := HE2.out.kp kp (htyped_off HB2.out)
                have hK4 := HK2.out.trans kp (by simp)
                have HI4 : Hid (HToI X w g n c s (k + 1) A es r ((w3.setCell ⟨g, 7, none⟩ (.bool true)).setCell ⟨g, 5, none⟩ (.int .i64 ((s : Int) + k + 1))).drew) := Lib.hid ⟨hb4.drew_, hE4.kp (L := []) (Kp.refl _ _).drew (fun x hx => by cases hx), hK4.drew⟩
                clear hb3 hb4 kp hE4 hK4 hup ev
                go_region
                all_goals
                  go_wp2_with fail
                  go_roundw
                  case rel =>
                    refine ⟨k + 1, by omega, by go_num, fun j hj => ?_, HI4.out⟩
                    by_cases e : j = k
                    · subst e; rw [HX.out]; exact hxt
                    · exact HOK.out j (by omega)
                  case measure => simp [intOf]; omega
            · go_wp2_with fail
              clear d0 d1 d2 hl
              generalize World.alloc wr _ = w2 at *
              generalize wr.heap.size = eb at *
              go_region
              all_goals
                have hb6 := HB.out.set_ 10 (.bool true)
                have kp6 : Kp [g] w2 ((w2.setCell ⟨g, 10, none⟩ (.bool true)).drew) := ((Kp.refl _ _).setCell (.inl (by simp)) _).drew
                have HB2 : Hid (Blk ((w2.setCell ⟨g, 10, none⟩ (.bool true)).drew) g 92 (hpL X A n c (s + k) (fun j => upTo es (s + k) j) true)) := Lib.hid hb6
                have HE2 := Lib.hid (HE.out.kp kp6 (htyped_off HB.out))
                have HK2 := Lib.hid (HK.out.trans kp6 (by simp))
                have HN2 := Lib.hid ((HN.out.kp kp6 (by simp; exact fun e => hne e.symm)))
                have cq2 : ((w2.setCell ⟨g, 10, none⟩ (.bool true)).drew).cell? ⟨g, 7, none⟩ = some (.bool (upTo es (s + k) ((1 : Nat) : Int))) := HB2.out.cell 7
                have c12 : ((w2.setCell ⟨g, 10, none⟩ (.bool true)).drew).cell? ⟨g, 5, none⟩ = some (.int .i64 (s + k : Nat)) := HB2.out.cell 5
                have e12 : ((w2.setCell ⟨g, 10, none⟩ (.bool true)).drew).cell? ⟨eb, 1, none⟩ = some (.int .u8 1) := HN2.out.cell 1
                have e22 : ((w2.setCell ⟨g, 10, none⟩ (.bool true)).drew).cell? ⟨eb, 2, none⟩ = some (.bool true) := HN2.out.cell 2
                rw [show upTo es (s + k) ((1 : Nat) : Int) = u0 from HU0.out] at cq2
                have fq2 := HB2.out.frozen 7
                have f12 := HB2.out.frozen 5
                clear cq c1 c6 e0 e1 e2 fq f1 f6 hb6 kp6 HB HE HK HN
                generalize World.drew _ = w3 at *
                go_wp2_with fail
                have hro : roseTo es r s (k + 1) = true := by
                  simp only [roseTo]; rw [HR0.out]; simp
                have HRO := Lib.hid hro
                clear hro
                have hb3 := HB2.out.set_ (6 + 1) (.bool true)
                rw [hpL_set X _ _ _ _ _ _ _ hq4] at hb3
                have hup : (fun i : Nat => if i = 1 then true else upTo es (s + k) i) = fun i : Nat => upTo es (s + (k + 1)) i := by
                  funext i
                  rw [← Nat.add_assoc, up_step, HQ.out, HZ.out]
                  by_cases e : i = 1
                  · subst e; simp
                  · rw [if_neg e, if_neg (by omega)]
                have g1 : (w3.setCell ⟨g, 7, none⟩ (.bool true)).cell? ⟨g, 5, none⟩ = some (.int .i64 (s + k : Nat)) := hb3.cell 5
                have h1' : (w3.setCell ⟨g, 7, none⟩ (.bool true)).frozen? ⟨g, 5, none⟩ = false := hb3.frozen 5
                rw [hup] at hb3
                have ev : (Value.int .i64 ((s : Int) + k + 1)) = .int .i64 ((s + (k + 1) : Nat) : Int) := by rw [show (s : Int) + k + 1 = ((s + (k + 1) : Nat) : Int) by omega]
                have hb4 : Blk ((w3.setCell ⟨g, 7, none⟩ (.bool true)).setCell ⟨g, 5, none⟩ (.int .i64 ((s : Int) + k + 1))) g 92 (hpL X A n c (s + (k + 1)) (fun i => upTo es (s + (k + 1)) i) (roseTo es r s (k + 1))) := by rw [ev, HRO.out]; exact hb3.set_ 5 _
                have kp : Kp [g] w3 ((w3.setCell ⟨g, 7, none⟩ (.bool true)).setCell ⟨g, 5, none⟩ (.int .i64 ((s : Int) + k + 1))) := ((Kp.refl _ _).setCell (.inl (by simp)) _).setCell (.inl (by simp)) _
                have hE4 := HE2.out.kp kp (htyped_off HB2.out)
                have hK4 := HK2.out.trans kp (by simp)
                have HI4 : Hid (HToI X w g n c s (k + 1) A es r ((w3.setCell ⟨g, 7, none⟩ (.bool true)).setCell ⟨g, 5, none⟩ (.int .i64 ((s : Int) + k + 1))).drew) := Lib.hid ⟨hb4.drew_, hE4.kp (L := []) (Kp.refl _ _).drew (fun x hx => by cases hx), hK4.drew⟩
                clear hb3 hb4 kp hE4 hK4 hup ev
                go_region
                all_goals
                  go_wp2_with fail
                  go_roundw
                  case rel =>
                    refine ⟨k + 1, by omega, by go_num, fun j hj => ?_, HI4.out⟩
                    by_cases e : j = k
                    · subst e; rw [HX.out]; exact hxt
                    · exact HOK.out j (by omega)
                  case measure => simp [intOf]; omega
        · have t3 : ((q : Int) == 1) = false := by simp; omega
          go_wp2_with fail
          have HB2 := HB
          have HE2 := HE
          have HK2 := HK
          have HN2 := HN
          generalize World.alloc wr _ = w2 at *
          generalize wr.heap.size = eb at *
          have hro : roseTo es r s (k + 1) = roseTo es r s k := by
            simp only [roseTo]; rw [HQ.out, t3]; simp
          have HRO := Lib.hid hro
          clear hro
          have hb3 := HB2.out.set_ (6 + q) (.bool z)
          rw [hpL_set X _ _ _ _ _ _ _ hq4] at hb3
          have hup : (fun i : Nat => if i = q then z else upTo es (s + k) i) = fun i : Nat => upTo es (s + (k + 1)) i := by
            funext i
            rw [← Nat.add_assoc, up_step, HQ.out, HZ.out]
            by_cases e : i = q
            · subst e; simp
            · rw [if_neg e, if_neg (by omega)]
          have g1 : (w2.setCell ⟨g, 6 + q, none⟩ (.bool z)).cell? ⟨g, 5, none⟩ = some (.int .i64 (s + k : Nat)) := hb3.cell 5
          have h1' : (w2.setCell ⟨g, 6 + q, none⟩ (.bool z)).frozen? ⟨g, 5, none⟩ = false := hb3.frozen 5
          rw [hup] at hb3
          have ev : (Value.int .i64 ((s : Int) + k + 1)) = .int .i64 ((s + (k + 1) : Nat) : Int) := by rw [show (s : Int) + k + 1 = ((s + (k + 1) : Nat) : Int) by omega]
          have hb4 : Blk ((w2.setCell ⟨g, 6 + q, none⟩ (.bool z)).setCell ⟨g, 5, none⟩ (.int .i64 ((s : Int) + k + 1))) g 92 (hpL X A n c (s + (k + 1)) (fun i => upTo es (s + (k + 1)) i) (roseTo es r s (k + 1))) := by rw [ev, HRO.out]; exact hb3.set_ 5 _
          have kp : Kp [g] w2 ((w2.setCell ⟨g, 6 + q, none⟩ (.bool z)).setCell ⟨g, 5, none⟩ (.int .i64 ((s : Int) + k + 1))) := ((Kp.refl _ _).setCell (.inl (by simp)) _).setCell (.inl (by simp)) _
          have hE4 := HE2.out.kp kp (htyped_off HB2.out)
          have hK4 := HK2.out.trans kp (by simp)
          have HI4 : Hid (HToI X w g n c s (k + 1) A es r ((w2.setCell ⟨g, 6 + q, none⟩ (.bool z)).setCell ⟨g, 5, none⟩ (.int .i64 ((s : Int) + k + 1))).drew) := Lib.hid ⟨hb4.drew_, hE4.kp (L := []) (Kp.refl _ _).drew (fun x hx => by cases hx), hK4.drew⟩
          clear hb3 hb4 kp hE4 hK4 hup ev
          go_region
          all_goals
            go_wp2_with fail
            go_roundw
            case rel =>
              refine ⟨k + 1, by omega, by go_num, fun j hj => ?_, HI4.out⟩
              by_cases e : j = k
              · subst e; rw [HX.out]; exact hxt
              · exact HOK.out j (by omega)
            case measure => simp [intOf]; omega
    · obtain rfl : k = m := by omega
      have e : pass es n t s = s + k := by rw [HPK.out]; exact pass_stop (.inl (by have := HM.out; omega))
      have hsk : s + k - s = k := by omega
      rw [e, hsk]
      obtain ⟨hb, hE, hK⟩ := hI
      have HB := Lib.hid hb
      have HE := Lib.hid hE
      have HK := Lib.hid hK
      clear hb hE hK hok
      go_wp2_with fail
      (try rw [Exit.noGoto_ret])
      first | go_end0 | refine bodyPost_ret (results_none rfl _ _ _) rfl ?_
      exact ⟨rfl, ⟨by have := HM.out; omega, A, c, HB.out, HE.out⟩, HK.out⟩
end Go.Proofs.YtngfmofjonleeaaGreat
namespace Go.Proofs.YtngfmofjonleeaaGreat
open Go.RowKit
set_option linter.unusedVariables false
set_option linter.unusedSimpArgs false
set_option maxRecDepth 100000
def rlC (A : Option Addr) (n c s : Nat) (r : Bool) : Array Value := #[.slice A n c, .int .i64 s, .bool r]
section
variable {w : World} {g n c : Nat} {A : Option Addr} {es : Nat → Iib} {s : Nat} {r : Bool}
set_option maxHeartbeats 1000000 in
theorem rup_any (h : Blk w g 108 (rlC A n c s r)) (R : ERow w A n es) (hs : s ≤ n) (hn : n ≤ 1000) (l : Int) :
    Calls Tryz.prog 82 #[.pointer (some ⟨g, 0, none⟩), .int .u8 l] w fun e w' => e = .returned (.bool (upTo es s l)) ∧ w = w' := by
  have c0 : w.cell? ⟨g, 0, none⟩ = some (.slice A n c) := h.cell 0
  have c1 : w.cell? ⟨g, 1, none⟩ = some (.int .i64 s) := h.cell 1
  have HR := Lib.hid R
  clear h R
  obtain ⟨r, hr⟩ : ∃ r, upTo es s l = r := ⟨_, rfl⟩
  rw [hr]
  have HC := Lib.hid hr
  clear hr
  go_enter Tryz.func82, Tryz.ntmps82
  go_wp2_with fail
  go_loop [5, 6] (fun u i => ∃ k : Nat, k ≤ s ∧ i = .int .i64 k ∧ u = .bool (upTo es k l)) (fun _ i => s - (intOf i).toNat)
  case atStart => exact ⟨0, by omega, rfl, rfl⟩
  case round =>
    obtain ⟨k, hk, rfl, rfl⟩ := hrel
    obtain ⟨u, hu⟩ : ∃ u, upTo es k l = u := ⟨_, rfl⟩
    have HU := Lib.hid hu
    rw [hu]
    clear hu
    by_cases hlt : k < s
    · obtain ⟨ad, rfl, hl, d0, d1, d2⟩ := ERow.cells HR.out k (by omega)
      obtain ⟨y, hy⟩ : ∃ y, (es k).b = y := ⟨_, rfl⟩
      obtain ⟨z, hz⟩ : ∃ z, (es k).c = z := ⟨_, rfl⟩
      rw [hy] at d1
      rw [hz] at d2
      have HY := Lib.hid hy
      have HZ := Lib.hid hz
      have i0 : (0 : Int) ≤ (k : Int) := by omega
      have i1 : (k : Int) < n := by omega
      clear hy hz d0
      by_cases h2 : y = l
      · have e2 : upTo es (k + 1) l = z := by simp only [upTo]; rw [HY.out, if_pos h2, HZ.out]
        have E2 := Lib.hid e2
        have t2 : (y == l) = true := by simpa using h2
        clear e2 h2
        go_wp2_with fail
        go_round
        case rel => exact ⟨k + 1, by omega, by go_num, by rw [E2.out]⟩
        case measure => simp [intOf]; omega
      · have e2 : upTo es (k + 1) l = u := by simp only [upTo]; rw [HY.out, if_neg h2, HU.out]
        have E2 := Lib.hid e2
        have t2 : (y == l) = false := by simpa using h2
        clear e2
        go_wp2_with fail
        go_round
        case rel => exact ⟨k + 1, by omega, by go_num, by rw [E2.out]⟩
        case measure => simp [intOf]; omega
    · obtain rfl : k = s := by omega
      have e : r = u := by rw [← HC.out, HU.out]
      subst e
      go_wp2_with fail
      go_ret
      exact ⟨rfl, rfl⟩
def RToR (g n c : Nat) (A : Option Addr) (s : Nat) (r : Bool) (w : World) (e : Ending) (w' : World) : Prop := e = .returned (.tuple #[]) ∧ Blk w' g 108 (rlC A n c s r) ∧ Kp [g] w w'
set_option maxHeartbeats 4000000 in
theorem rto_any (h : Blk w g 108 (rlC A n c s r)) (R : ERow w A n es) (hA : ∀ ad, A = some ad → 0 < n → ad.block ∉ [g]) (hs : s ≤ n) (hn : n ≤ 1000) (t : Int) :
    Calls Tryz.prog 108 #[.pointer (some ⟨g, 0, none⟩), .int .i64 t] w (RToR g n c A (pass es n t s) (roseTo es r s (pass es n t s - s)) w) := by
  have HR := Lib.hid R
  have HA := Lib.hid hA
  have H := Lib.hid h
  clear R hA h
  go_enter Tryz.func108, Tryz.ntmps108
  go_wp2_with fail
  go_loopg [4] (n - s) (fun gk p wr => ∃ k : Nat, k + gk = n - s ∧ (∀ j, j < k → (es (s + j)).a ≤ t) ∧ Blk wr g 108 (rlC A n c (s + k) (roseTo es r s k)) ∧ Kp [g] w wr)
  case atStart => exact ⟨0, by omega, fun j hj => absurd hj (by omega), H.out, Kp.refl _ _⟩
  case round =>
    obtain ⟨k, hk, hok, hb, hK⟩ := hrel
    have hpk : pass es n t s = pass es n t (s + k) := pass_run k (fun i hi => ⟨by omega, hok i hi⟩)
    have HPK := Lib.hid hpk
    have HK := Lib.hid hK
    have HOK := Lib.hid hok
    have HRr := Lib.hid (FRow.kp_ HR.out hK HA.out)
    obtain ⟨r0, hr0⟩ : ∃ u, roseTo es r s k = u := ⟨_, rfl⟩
    have HR0 := Lib.hid hr0
    rw [hr0] at hb
    obtain ⟨q, hq⟩ : ∃ q, s + k = q := ⟨_, rfl⟩
    have HQ := Lib.hid hq
    rw [hq] at hb
    have hqn : q ≤ n := by omega
    have hkq : k = q - s := by omega
    have HKQ := Lib.hid hkq
    have hsq : s ≤ q := by omega
    have HB := Lib.hid hb
    have c0 : wr.cell? ⟨g, 0, none⟩ = some (.slice A n c) := hb.cell 0
    have c1 : wr.cell? ⟨g, 1, none⟩ = some (.int .i64 q) := hb.cell 1
    clear hpk hK hok hr0 hq hb hkq
    by_cases hlt : q < n
    · obtain ⟨ad, rfl, hl, d0, d1, d2⟩ := ERow.cells HRr.out q hlt
      obtain ⟨x, hx⟩ : ∃ x, (es q).a = x := ⟨_, rfl⟩
      obtain ⟨y, hy⟩ : ∃ y, (es q).b = y := ⟨_, rfl⟩
      obtain ⟨z, hz⟩ : ∃ z, (es q).c = z := ⟨_, rfl⟩
      rw [hx] at d0
      rw [hy] at d1
      rw [hz] at d2
      have HX := Lib.hid hx
      have HY := Lib.hid hy
      have HZ := Lib.hid hz
      have i0 : (0 : Int) ≤ (q : Int) := by omega
      have i1 : (q : Int) < n := by omega
      have t0 : decide ((q : Int) < n) = true := decide_eq_true i1
      have t0' : decide (q < n) = true := decide_eq_true hlt
      clear hx hy hz
      by_cases h1 : x ≤ t
      · have t1 : decide (x ≤ t) = true := decide_eq_true h1
        go_wp2_with fail
        go_quiet (fail)
        go_wp2_with fail
        have SW : Hid (∀ wx, Kp [] wr wx → wx.cell? ⟨g, 0, none⟩ = some (.slice (some ad) n c) ∧ wx.cell? ⟨g, 1, none⟩ = some (.int .i64 q) ∧ wx.cell? (ad.add (q * 3)) = some (.int .i64 x) ∧ wx.cell? ⟨(ad.add (q * 3)).block, (ad.add (q * 3)).off + 1, none⟩ = some (.int .u8 y) ∧ wx.cell? ⟨(ad.add (q * 3)).block, (ad.add (q * 3)).off + 2, none⟩ = some (.bool z)) := Lib.hid fun wx k => by
          have hlg := HB.out.lt
          exact ⟨(k.cell (p := ⟨g, 0, none⟩) hlg (by simp)).trans c0, (k.cell (p := ⟨g, 1, none⟩) hlg (by simp)).trans c1, (k.cell (p := ad.add (q * 3)) (by rw [block_of_add]; exact hl) (by simp)).trans d0, (k.cell (p := ⟨(ad.add (q * 3)).block, (ad.add (q * 3)).off + 1, none⟩) (by rw [block_of_add]; exact hl) (by simp)).trans d1, (k.cell (p := ⟨(ad.add (q * 3)).block, (ad.add (q * 3)).off + 2, none⟩) (by rw [block_of_add]; exact hl) (by simp)).trans d2⟩
        refine rg_begin (S := fun w' => w'.cell? ⟨g, 0, none⟩ = some (.slice (some ad) n c) ∧ w'.cell? ⟨g, 1, none⟩ = some (.int .i64 q) ∧ w'.cell? (ad.add (q * 3)) = some (.int .i64 x) ∧ w'.cell? ⟨(ad.add (q * 3)).block, (ad.add (q * 3)).off + 1, none⟩ = some (.int .u8 y) ∧ w'.cell? ⟨(ad.add (q * 3)).block, (ad.add (q * 3)).off + 2, none⟩ = some (.bool z)) 12 #[false, false, false, false, false, false, false, false, false, false, false, false] (by kernel_rfl) (by kernel_rfl) (by kernel_rfl) ?_ (fun hHeld => ?_)
        · exact ⟨c0, c1, d0, d1, d2⟩
        refine rg_take (i := 0) (d := some 30) (l := #[true, false, false, false, false, false, false, false, false, false, false, false]) (fuel := 11) (v := ?_) rfl (by kernel_rfl) (by kernel_rfl) (by kernel_rfl) (by kernel_rfl) (by kernel_rfl) (fun _ _ _ h => h) (by kernel_rfl) ?_ (by assumption) ?_
        rotate_left 1
        · (intro wS hSw; (try dsimp only at hSw); go_simp; try with_reducible rfl)
        try simp only [Act.put, List.setIfInBounds_toArray, List.set_cons_zero, List.set_cons_succ]
        refine rg_take (i := 1) (d := some 31) (l := #[true, true, false, false, false, false, false, false, false, false, false, false]) (fuel := 10) (v := ?_) rfl (by kernel_rfl) (by kernel_rfl) (by kernel_rfl) (by kernel_rfl) (by kernel_rfl) (fun _ _ _ h => h) (by kernel_rfl) ?_ (by assumption) ?_
        rotate_left 1
        · (intro wS hSw; (try dsimp only at hSw); go_simp; try with_reducible rfl)
        try simp only [Act.put, List.setIfInBounds_toArray, List.set_cons_zero, List.set_cons_succ]
        refine rg_take (i := 2) (d := some 32) (l := #[true, true, true, false, false, false, false, false, false, false, false, false]) (fuel := 9) (v := ?_) rfl (by kernel_rfl) (by kernel_rfl) (by kernel_rfl) (by kernel_rfl) (by kernel_rfl) (fun _ _ _ h => h) (by kernel_rfl) ?_ (by assumption) ?_
        rotate_left 1
        · (intro wS hSw; (try dsimp only at hSw); go_simp; try with_reducible rfl)
        try simp only [Act.put, List.setIfInBounds_toArray, List.set_cons_zero, List.set_cons_succ]
        refine rg_take (i := 3) (d := some 33) (l := #[true, true, true, true, false, false, false, false, false, false, false, false]) (fuel := 8) (v := ?_) rfl (by kernel_rfl) (by kernel_rfl) (by kernel_rfl) (by kernel_rfl) (by kernel_rfl) (fun _ _ _ h => h) (by kernel_rfl) ?_ (by assumption) ?_
        rotate_left 1
        · (intro wS hSw; (try dsimp only at hSw); go_simp; try with_reducible rfl)
        try simp only [Act.put, List.setIfInBounds_toArray, List.set_cons_zero, List.set_cons_succ]
        refine rg_take (i := 4) (d := some 34) (l := #[true, true, true, true, true, false, false, false, false, false, false, false]) (fuel := 7) (v := ?_) rfl (by kernel_rfl) (by kernel_rfl) (by kernel_rfl) (by kernel_rfl) (by kernel_rfl) (fun _ _ _ h => h) (by kernel_rfl) ?_ (by assumption) ?_
        rotate_left 1
        · (intro wS hSw; (try dsimp only at hSw); go_simp; try with_reducible rfl)
        try simp only [Act.put, List.setIfInBounds_toArray, List.set_cons_zero, List.set_cons_succ]
        refine rg_take (i := 5) (d := some 35) (l := #[true, true, true, true, true, true, false, false, false, false, false, false]) (fuel := 6) (v := ?_) rfl (by kernel_rfl) (by kernel_rfl) (by kernel_rfl) (by kernel_rfl) (by kernel_rfl) (fun _ _ _ h => h) (by kernel_rfl) ?_ (by assumption) ?_
        rotate_left 1
        · (intro wS hSw; (try dsimp only at hSw); go_simp; try with_reducible rfl)
        try simp only [Act.put, List.setIfInBounds_toArray, List.set_cons_zero, List.set_cons_succ]
        refine rg_take (i := 6) (d := some 36) (l := #[true, true, true, true, true, true, true, false, false, false, false, false]) (fuel := 5) (v := ?_) rfl (by kernel_rfl) (by kernel_rfl) (by kernel_rfl) (by kernel_rfl) (by kernel_rfl) (fun _ _ _ h => h) (by kernel_rfl) ?_ (by assumption) ?_
        rotate_left 1
        · (intro wS hSw; (try dsimp only at hSw); go_simp; try with_reducible rfl)
        try simp only [Act.put, List.setIfInBounds_toArray, List.set_cons_zero, List.set_cons_succ]
        refine rg_take (i := 7) (d := some 37) (l := #[true, true, true, true, true, true, true, true, false, false, false, false]) (fuel := 4) (v := ?_) rfl (by kernel_rfl) (by kernel_rfl) (by kernel_rfl) (by kernel_rfl) (by kernel_rfl) (fun _ _ _ h => h) (by kernel_rfl) ?_ (by assumption) ?_
        rotate_left 1
        · (intro wS hSw; (try dsimp only at hSw); go_simp; try with_reducible rfl)
        try simp only [Act.put, List.setIfInBounds_toArray, List.set_cons_zero, List.set_cons_succ]
        refine rg_take (i := 8) (d := some 38) (l := #[true, true, true, true, true, true, true, true, true, false, false, false]) (fuel := 3) (v := ?_) rfl (by kernel_rfl) (by kernel_rfl) (by kernel_rfl) (by kernel_rfl) (by kernel_rfl) (fun _ _ _ h => h) (by kernel_rfl) ?_ (by assumption) ?_
        rotate_left 1
        · (intro wS hSw; (try dsimp only at hSw); go_simp; try with_reducible rfl)
        try simp only [Act.put, List.setIfInBounds_toArray, List.set_cons_zero, List.set_cons_succ]
        refine rg_take (i := 9) (d := some 39) (l := #[true, true, true, true, true, true, true, true, true, true, false, false]) (fuel := 2) (v := ?_) rfl (by kernel_rfl) (by kernel_rfl) (by kernel_rfl) (by kernel_rfl) (by kernel_rfl) (fun _ _ _ h => h) (by kernel_rfl) ?_ (by assumption) ?_
        rotate_left 1
        · (intro wS hSw; (try dsimp only at hSw); go_simp; try with_reducible rfl)
        try simp only [Act.put, List.setIfInBounds_toArray, List.set_cons_zero, List.set_cons_succ]
        refine rg_next (i := 10) (l := #[true, true, true, true, true, true, true, true, true, true, true, false]) (fuel := 1) (by kernel_rfl) rfl (by kernel_rfl) (by kernel_rfl) (fun K hK => ?_)
        go_simp
        have KX : Kp [] wr ((wr.drewN (nq + 1)).alloc (.cells #[.int .i64 0, .int .u8 0, .bool false] 150)) := ((Kp.refl _ _).drewN _).alloc _
        have NX : Blk ((wr.drewN (nq + 1)).alloc (.cells #[.int .i64 0, .int .u8 0, .bool false] 150)) wr.heap.size 150 #[.int .i64 0, .int .u8 0, .bool false] := Blk.new _ _ _
        have x0 : ((wr.drewN (nq + 1)).alloc (.cells #[.int .i64 0, .int .u8 0, .bool false] 150)).cell? ⟨wr.heap.size, 0, none⟩ = some (.int .i64 0) := NX.cell 0
        have x1 : ((wr.drewN (nq + 1)).alloc (.cells #[.int .i64 0, .int .u8 0, .bool false] 150)).cell? ⟨wr.heap.size, 1, none⟩ = some (.int .u8 0) := NX.cell 1
        have x2 : ((wr.drewN (nq + 1)).alloc (.cells #[.int .i64 0, .int .u8 0, .bool false] 150)).cell? ⟨wr.heap.size, 2, none⟩ = some (.bool false) := NX.cell 2
        have y0 := NX.frozen 0
        have y1 := NX.frozen 1
        have y2 := NX.frozen 2
        have HNX := Lib.hid NX
        have HKX := Lib.hid KX
        clear NX KX
        first | (refine hK.out _ _ ?_ (fun hHeld => ?_)) | (go_wp2_with fail; refine hK.out _ _ ?_ (fun hHeld => ?_))
        · (try dsimp only); exact SW.out _ HKX.out
        clear hK K
        try simp only [Act.put, List.setIfInBounds_toArray, List.set_cons_zero, List.set_cons_succ]
        refine rg_next (i := 11) (l := #[true, true, true, true, true, true, true, true, true, true, true, true]) (fuel := 0) (by kernel_rfl) rfl (by kernel_rfl) (by kernel_rfl) (fun K hK => ?_)
        go_simp
        skip
        first | (refine hK.out _ _ ?_ (fun hHeld => ?_)) | (go_wp2_with fail; refine hK.out _ _ ?_ (fun hHeld => ?_))
        · (try dsimp only); exact SW.out _ (((HKX.out.setCell (.inr (Nat.le_refl _)) _).setCell (.inr (Nat.le_refl _)) _).setCell (.inr (Nat.le_refl _)) _)
        clear hK K
        try simp only [Act.put, List.setIfInBounds_toArray, List.set_cons_zero, List.set_cons_succ]
        refine wpAnyH_done (by kernel_rfl) ?_ _
        have hlg := HB.out.lt
        have NY := ((HNX.out.set_ 0 (.int .i64 x)).set_ 1 (.int .u8 y)).set_ 2 (.bool z)
        have KY := ((HKX.out.setCell (p := ⟨wr.heap.size, 0, none⟩) (.inr (Nat.le_refl _)) (.int .i64 x)).setCell (p := ⟨wr.heap.size, 1, none⟩) (.inr (Nat.le_refl _)) (.int .u8 y)).setCell (p := ⟨wr.heap.size, 2, none⟩) (.inr (Nat.le_refl _)) (.bool z)
        replace NY : Blk _ wr.heap.size 150 #[.int .i64 x, .int .u8 y, .bool z] := NY
        clear hHeld x0 x1 x2 y0 y1 y2 HNX HKX SW c0 c1 d0 d1 d2 t0 t0'
        generalize World.setCell (World.setCell (World.setCell _ _ _) _ _) _ _ = wy at *
        have HBX := Lib.hid (HB.out.kp KY (by simp))
        have HRX := Lib.hid (FRow.kp HRr.out KY (by simp))
        have HKX2 : Hid (Kp [g] wr wy) := Lib.hid (KY.mono (by simp))
        have e0 : wy.cell? ⟨wr.heap.size, 0, none⟩ = some (.int .i64 x) := NY.cell 0
        have e1 : wy.cell? ⟨wr.heap.size, 1, none⟩ = some (.int .u8 y) := NY.cell 1
        have e2 : wy.cell? ⟨wr.heap.size, 2, none⟩ = some (.bool z) := NY.cell 2
        have c1 : wy.cell? ⟨g, 1, none⟩ = some (.int .i64 q) := HBX.out.cell 1
        have c2 : wy.cell? ⟨g, 2, none⟩ = some (.bool r0) := HBX.out.cell 2
        have f1 := HBX.out.frozen 1
        have f2 := HBX.out.frozen 2
        have hql : (q : Int) ≤ 1000 := by omega
        clear NY KY
        by_cases hy1 : y = 1
        · subst hy1
          have t1 : ((1 : Int) == 1) = true := rfl
          cases z with
          | false =>
            have hro : roseTo es r s (k + 1) = r0 := by
              simp only [roseTo]
              rw [HQ.out, HY.out, HZ.out, HR0.out]
              simp
            have b1 := HBX.out.set_ 1 (.int .i64 ((q : Int) + 1))
            have kx : Kp [g] wr (wy.setCell ⟨g, 1, none⟩ (.int .i64 ((q : Int) + 1))) := HKX2.out.setCell (.inl (by simp)) _
            have HB1 : Hid (Blk (wy.setCell ⟨g, 1, none⟩ (.int .i64 ((q : Int) + 1))) g 108 (rlC (some ad) n c (s + (k + 1)) (roseTo es r s (k + 1)))) := Lib.hid (by rw [hro, show s + (k + 1) = q + 1 by have := HQ.out; omega]; exact b1)
            have HK1 := Lib.hid (HK.out.trans kx (by simp))
            clear hro b1 kx
            go_wp2_with fail
            have hsk := HQ.out
            go_roundg (gk - 1)
            case measure => omega
            case rel =>
              refine ⟨k + 1, by omega, fun j hj => ?_, HB1.out, HK1.out⟩
              by_cases e : j = k
              · subst e; rw [HQ.out, HX.out]; exact h1
              · exact HOK.out j (by omega)
          | true =>
            obtain ⟨u0, hu0⟩ : ∃ u, upTo es q 1 = u := ⟨_, rfl⟩
            have HU := Lib.hid hu0
            clear hu0
            go_wp2_with fail
            refine (rup_any HBX.out HRX.out hqn hn 1).mono ?_
            rw [HU.out]
            rintro e w' ⟨rfl, rfl⟩
            cases u0 with
            | true =>
              have hro : roseTo es r s (k + 1) = r0 := by
                simp only [roseTo]
                rw [HQ.out, HY.out, HZ.out, HR0.out]
                rw [HU.out]; simp
              have b1 := HBX.out.set_ 1 (.int .i64 ((q : Int) + 1))
              have kx : Kp [g] wr (wy.setCell ⟨g, 1, none⟩ (.int .i64 ((q : Int) + 1))) := HKX2.out.setCell (.inl (by simp)) _
              have HB1 : Hid (Blk (wy.setCell ⟨g, 1, none⟩ (.int .i64 ((q : Int) + 1))) g 108 (rlC (some ad) n c (s + (k + 1)) (roseTo es r s (k + 1)))) := Lib.hid (by rw [hro, show s + (k + 1) = q + 1 by have := HQ.out; omega]; exact b1)
              have HK1 := Lib.hid (HK.out.trans kx (by simp))
              clear hro b1 kx
              go_wp2_with fail
              have hsk := HQ.out
              go_roundg (gk - 1)
              case measure => omega
              case rel =>
                refine ⟨k + 1, by omega, fun j hj => ?_, HB1.out, HK1.out⟩
                by_cases e : j = k
                · subst e; rw [HQ.out, HX.out]; exact h1
                · exact HOK.out j (by omega)
            | false =>
              have b2 := HBX.out.set_ 2 (.bool true)
              have HK2 : Hid (Kp [g] wr (wy.setCell ⟨g, 2, none⟩ (.bool true))) := Lib.hid (HKX2.out.setCell (.inl (by simp)) _)
              have HB2 : Hid (Blk (wy.setCell ⟨g, 2, none⟩ (.bool true)) g 108 (rlC (some ad) n c q true)) := Lib.hid b2
              have c12 : (wy.setCell ⟨g, 2, none⟩ (.bool true)).cell? ⟨g, 1, none⟩ = some (.int .i64 q) := b2.cell 1
              have f12 := b2.frozen 1
              clear b2 HBX HKX2
              have HBX := HB2
              have HKX2 := HK2
              have hro : roseTo es r s (k + 1) = true := by
                simp only [roseTo]
                rw [HQ.out, HY.out, HZ.out, HR0.out]
                rw [HU.out]; simp
              have b1 := HBX.out.set_ 1 (.int .i64 ((q : Int) + 1))
              have kx : Kp [g] wr ((wy.setCell ⟨g, 2, none⟩ (.bool true)).setCell ⟨g, 1, none⟩ (.int .i64 ((q : Int) + 1))) := HKX2.out.setCell (.inl (by simp)) _
              have HB1 : Hid (Blk ((wy.setCell ⟨g, 2, none⟩ (.bool true)).setCell ⟨g, 1, none⟩ (.int .i64 ((q : Int) + 1))) g 108 (rlC (some ad) n c (s + (k + 1)) (roseTo es r s (k + 1)))) := Lib.hid (by rw [hro, show s + (k + 1) = q + 1 by have := HQ.out; omega]; exact b1)
              have HK1 := Lib.hid (HK.out.trans kx (by simp))
              clear hro b1 kx
              go_wp2_with fail
              have hsk := HQ.out
              go_roundg (gk - 1)
              case measure => omega
              case rel =>
                refine ⟨k + 1, by omega, fun j hj => ?_, HB1.out, HK1.out⟩
                by_cases e : j = k
                · subst e; rw [HQ.out, HX.out]; exact h1
                · exact HOK.out j (by omega)
        · have t1 : (y == 1) = false := by simpa using hy1
          have hro : roseTo es r s (k + 1) = r0 := by
            simp only [roseTo]
            rw [HQ.out, HY.out, HZ.out, HR0.out]
            rw [t1]; simp
          have b1 := HBX.out.set_ 1 (.int .i64 ((q : Int) + 1))
          have kx : Kp [g] wr (wy.setCell ⟨g, 1, none⟩ (.int .i64 ((q : Int) + 1))) := HKX2.out.setCell (.inl (by simp)) _
          have HB1 : Hid (Blk (wy.setCell ⟨g, 1, none⟩ (.int .i64 ((q : Int) + 1))) g 108 (rlC (some ad) n c (s + (k + 1)) (roseTo es r s (k + 1)))) := Lib.hid (by rw [hro, show s + (k + 1) = q + 1 by have := HQ.out; omega]; exact b1)
          have HK1 := Lib.hid (HK.out.trans kx (by simp))
          clear hro b1 kx
          go_wp2_with fail
          have hsk := HQ.out
          go_roundg (gk - 1)
          case measure => omega
          case rel =>
            refine ⟨k + 1, by omega, fun j hj => ?_, HB1.out, HK1.out⟩
            by_cases e : j = k
            · subst e; rw [HQ.out, HX.out]; exact h1
            · exact HOK.out j (by omega)
      · have t1 : decide (x ≤ t) = false := decide_eq_false h1
        have e : pass es n t s = q := by rw [HPK.out, HQ.out]; exact pass_stop (.inr (by rw [HX.out]; omega))
        have HR0' := HR0
        rw [HKQ.out] at HR0'
        rw [e, HR0'.out]
        go_wp2_with fail
        go_quiet (fail)
        go_wp2_with fail
        first | go_end0 | refine bodyPost_ret (results_none rfl _ _ _) rfl ?_
        exact ⟨rfl, HB.out.drewN _, HK.out.drewN _⟩
    · obtain rfl : q = n := by omega
      have t0 : decide ((q : Int) < q) = false := decide_eq_false (by omega)
      have t0' : decide (q < q) = false := decide_eq_false hlt
      have e : pass es q t s = q := by rw [HPK.out, HQ.out]; exact pass_stop (.inl (Nat.le_refl _))
      have HR0' := HR0
      rw [HKQ.out] at HR0'
      rw [e, HR0'.out]
      go_wp2_with fail
      go_quiet (fail)
      go_wp2_with fail
      first | go_end0 | refine bodyPost_ret (results_none rfl _ _ _) rfl ?_
      exact ⟨rfl, HB.out.drewN _, HK.out.drewN _⟩
end
end Go.Proofs.YtngfmofjonleeaaGreat
