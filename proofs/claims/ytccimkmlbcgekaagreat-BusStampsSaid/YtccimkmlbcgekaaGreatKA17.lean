/-
  Texts of these proofs, one behind the other: Hln, Irq1, Irq2.
-/
import Derived.Test.YtccimkmlbcgekaaGreatKA16
import Derived.Test.YtccimkmlbcgekaaGreatKA02
import Derived.Test.YtccimkmlbcgekaaGreatKA05
import Derived.Test.YtccimkmlbcgekaaGreatKA01
import Derived.BigQuiet
import Derived.Deep.QuietTactic
namespace Go.Proofs.YtccimkmlbcgekaaGreat
open Go.RowKit
set_option linter.unusedVariables false
set_option linter.unusedSimpArgs false
set_option maxRecDepth 100000
/-- A page's cells, lines being among them. -/
def hpL (X : Nat → Value) (A : Option Addr) (n c s : Nat) (up : Nat → Bool) (r : Bool) : Array Value :=
  #[X 0, X 1, X 2, X 3, .slice A n c, .int .i64 s, .bool (up 0), .bool (up 1), .bool (up 2), .bool (up 3), .bool r, X 11, X 12, X 13, X 14, X 15, X 16, X 17, X 18, X 19, X 20, X 21, X 22]
section
variable (X : Nat → Value)
theorem hpL_up (A : Option Addr) (n c s : Nat) (up : Nat → Bool) (r : Bool) (j : Nat) (h : j < 4) : (hpL X A n c s up r)[6 + j]? = some (.bool (up j)) := by
  have : j = 0 ∨ j = 1 ∨ j = 2 ∨ j = 3 := by omega
  rcases this with rfl | rfl | rfl | rfl <;> rfl
theorem hpL_set (A : Option Addr) (n c s : Nat) (up : Nat → Bool) (r : Bool) (j : Nat) (h : j < 4) (b : Bool) : (hpL X A n c s up r).setIfInBounds (6 + j) (.bool b) = hpL X A n c s (fun i => if i = j then b else up i) r := by
  have : j = 0 ∨ j = 1 ∨ j = 2 ∨ j = 3 := by omega
  rcases this with rfl | rfl | rfl | rfl <;> rfl
end
/-- In the page at g there are lines, s of their edges having gone by. -/
def LNH (X : Nat → Value) (w : World) (g n : Nat) (es : Nat → Iib) (s : Nat) (r : Bool) : Prop :=
  s ≤ n ∧ ∃ A c, Blk w g 112 (hpL X A n c s (fun j => upTo es s j) r) ∧ EOwn w A n c es
def HLnR (X : Nat → Value) (v : Value) (g n : Nat) (es : Nat → Iib) (s : Nat) (r : Bool) (w : World) (e : Ending) (w' : World) : Prop := e = .returned v ∧ LNH X w' g n es s r ∧ Kp [g] w w'
theorem htyped_off {w : World} {g : Nat} {cs : Array Value} (hb : Blk w g 112 cs) : ∀ x ∈ [g], ∃ t cs, Blk w x t cs ∧ 179 ≠ t := fun x hx => by
  obtain rfl : x = g := by simpa using hx
  exact ⟨_, _, hb, by decide⟩
section
variable {X : Nat → Value} {w : World} {g n : Nat} {es : Nat → Iib} {s : Nat} {r : Bool}
theorem hup_any (h : LNH X w g n es s r) (j : Nat) (hj : j ≤ 255) :
    Calls Tryz.prog 134 #[.pointer (some ⟨g, 4, none⟩), .int .u8 (j : Int)] w fun e w' => e = .returned (.bool (upV es s j)) ∧ w = w' := by
  obtain ⟨_, A, c, hb, _⟩ := h
  by_cases h4 : j < 4
  · have e : upV es s j = upTo es s j := by unfold upV; rw [if_pos h4]
    rw [e]
    clear e
    have c0 : w.cell? ⟨g, 6 + j, none⟩ = some (.bool (upTo es s j)) := by rw [hb.cell, hpL_up X _ _ _ _ _ _ _ h4]
    have i0 : (0 : Int) ≤ (j : Int) := by omega
    have i4 : (j : Int) < 4 := by omega
    clear hb
    go_enter Tryz.func134, Tryz.ntmps134
    go_wp2
    go_ret
    exact ⟨rfl, rfl⟩
  · have e : upV es s j = false := by unfold upV; rw [if_neg h4]
    rw [e]
    clear e hb
    have i4 : ¬ (j : Int) < 4 := by omega
    go_enter Tryz.func134, Tryz.ntmps134
    go_wp2
    go_ret
    exact ⟨rfl, rfl⟩
theorem hrose_any (h : LNH X w g n es s r) :
    Calls Tryz.prog 135 #[.pointer (some ⟨g, 4, none⟩)] w fun e w' => e = .returned (.bool r) ∧ w = w' := by
  obtain ⟨_, A, c, hb, _⟩ := h
  have c0 : w.cell? ⟨g, 10, none⟩ = some (.bool r) := hb.cell 10
  clear hb
  go_enter Tryz.func135, Tryz.ntmps135
  go_wp2
  go_ret
  exact ⟨rfl, rfl⟩
theorem htake_any (h : LNH X w g n es s r) :
    Calls Tryz.prog 130 #[.pointer (some ⟨g, 4, none⟩)] w (HLnR X (.tuple #[]) g n es s false w) := by
  obtain ⟨hs, A, c, hb, hE⟩ := h
  have c0 : w.cell? ⟨g, 10, none⟩ = some (.bool r) := hb.cell 10
  have f0 := hb.frozen 10
  have HB := Lib.hid hb
  have HE := Lib.hid hE
  clear hb hE
  go_enter Tryz.func130, Tryz.ntmps130
  go_wp2
  go_end0
  have kp : Kp [g] w (w.setCell ⟨g, 10, none⟩ (.bool false)) := (Kp.refl _ _).setCell (.inl (by simp)) _
  exact ⟨rfl, ⟨hs, A, c, HB.out.set_ 10 _, HE.out.kp kp (htyped_off HB.out)⟩, kp⟩
theorem hclone_any (h : LNH X w g n es s r) :
    Calls Tryz.prog 112 #[.pointer (some ⟨g, 4, none⟩)] w (ECloneR g n es s r w) := by
  obtain ⟨hs, A, c, hb, hE⟩ := h
  have c0 : w.cell? ⟨g, 4, none⟩ = some (.slice A n c) := hb.cell 4
  have c1 : w.cell? ⟨g, 5, none⟩ = some (.int .i64 s) := hb.cell 5
  have c2 : w.cell? ⟨g, 6, none⟩ = some (.bool (upTo es s (0 : Nat))) := hb.cell 6
  have c3 : w.cell? ⟨g, 7, none⟩ = some (.bool (upTo es s (1 : Nat))) := hb.cell 7
  have c4 : w.cell? ⟨g, 8, none⟩ = some (.bool (upTo es s (2 : Nat))) := hb.cell 8
  have c5 : w.cell? ⟨g, 9, none⟩ = some (.bool (upTo es s (3 : Nat))) := hb.cell 9
  have c6 : w.cell? ⟨g, 10, none⟩ = some (.bool r) := hb.cell 10
  have HE := Lib.hid hE
  clear hb hE
  go_enter Tryz.func112, Tryz.ntmps112
  go_wp2
  go_ret
  have hB : Below w.heap.size w (w.alloc (.cells (lnC A n c s (fun j => upTo es s j) r) 93)) := (Below.refl _ _).alloc (Nat.le_refl _) _
  exact ⟨rfl, ⟨hs, A, c, Blk.new w 93 _, HE.out.keep hB⟩, hB⟩
end
/-- What of lines has gone by: the part of a loop's relation that speaks of memory. -/
def HToI (X : Nat → Value) (w : World) (g n c s k : Nat) (A : Option Addr) (es : Nat → Iib) (r : Bool) (wr : World) : Prop :=
  Blk wr g 112 (hpL X A n c (s + k) (fun j => upTo es (s + k) j) (roseTo es r s k)) ∧ EOwn wr A n c es ∧ Kp [g] w wr
set_option maxHeartbeats 4000000 in
theorem hto_any {X : Nat → Value} {w : World} {g n : Nat} {es : Nat → Iib} {s : Nat} {r : Bool} (h : LNH X w g n es s r) (hg : Good n es) (t : Int) :
    Calls Tryz.prog 167 #[.pointer (some ⟨g, 4, none⟩), .int .i64 t] w (HLnR X (.tuple #[]) g n es (pass es n t s) (roseTo es r s (pass es n t s - s)) w) := by
  obtain ⟨hn, hbad, hb0⟩ := hg
  obtain ⟨hs, A, c, hb, hE⟩ := h
  have c0 : w.cell? ⟨g, 4, none⟩ = some (.slice A n c) := hb.cell 4
  have c1 : w.cell? ⟨g, 5, none⟩ = some (.int .i64 s) := hb.cell 5
  have hsl := fun W => slice_e A n c s hs hE.1 W
  have hI0 : HToI X w g n c s 0 A es r w := ⟨hb, hE, Kp.refl _ _⟩
  have HI0 := Lib.hid hI0
  have HBAD : Hid (∀ j, j < n → ∃ q : Nat, (es j).b = q ∧ q < 4) := Lib.hid fun j hj => ⟨((es j).b).toNat, by have := hb0 j hj; omega, by have := hb0 j hj; have := (bad_zero (hbad j hj)).1; omega⟩
  have HA2 : Hid (∀ wr, EOwn wr A n c es → FRow wr 3 (if c = s then A else A.map (·.add (s * 3))) (n - s) (fun i => iibV .i64 .u8 (es (s + i)))) := Lib.hid fun wr h => FRow.from_ h.2.2.1 hs h.1
  generalize (if c = s then A else A.map (·.add (s * 3))) = A2 at *
  obtain ⟨m, hm⟩ : ∃ m, n - s = m := ⟨_, rfl⟩
  rw [hm] at HA2
  have hm2 : s + m = n := by omega
  have hm3 : m ≤ 1000 := by omega
  simp only [hm] at hsl
  have HM := Lib.hid hm2
  clear hb hE hI0 hbad hb0 hm hm2
  go_enter Tryz.func167, Tryz.ntmps167
  go_wp2_with fail
  go_step3
  go_wp2_with fail
  go_step3
  go_wp2_with fail
  go_quiet (fail)
  go_wp2_with fail
  have hK0 : HToI X w g n c s 0 A es r (w.drewN nq) := ⟨HI0.out.1.drewN _, HI0.out.2.1.kp (L := []) ((Kp.refl _ _).drewN _) (fun x hx => by cases hx), (Kp.refl _ _).drewN _⟩
  have HK0 := Lib.hid hK0
  clear hK0 c0 c1 hsl
  go_loopw [18] (fun i wr => ∃ k : Nat, k ≤ m ∧ i = .int .i64 k ∧ (∀ j, j < k → (es (s + j)).a ≤ t) ∧ HToI X w g n c s k A es r wr) (fun i _ => m - (intOf i).toNat)
  case atStart => exact ⟨0, by omega, rfl, fun j hj => absurd hj (by omega), HK0.out⟩
  case round =>
    obtain ⟨k, hk, rfl, hok, hI⟩ := hrel
    have hpk : pass es n t s = pass es n t (s + k) := pass_run k (fun i hi => ⟨by have := HM.out; omega, hok i hi⟩)
    have HPK := Lib.hid hpk
    clear hpk HK0 HI0
    by_cases hlt : k < m
    · obtain ⟨hb, hE, hK⟩ := hI
      obtain ⟨ad, e2, hl, d0, d1, d2⟩ := FRow.at_ (HA2.out wr hE) k hlt
      subst e2
      replace d0 : wr.cell? (ad.add (k * 3)) = some (.int .i64 (es (s + k)).a) := d0 (by decide)
      replace d1 : wr.cell? ⟨(ad.add (k * 3)).block, (ad.add (k * 3)).off + 1, none⟩ = some (.int .u8 (es (s + k)).b) := d1 (by decide)
      replace d2 : wr.cell? ⟨(ad.add (k * 3)).block, (ad.add (k * 3)).off + 2, none⟩ = some (.bool (es (s + k)).c) := d2 (by decide)
      obtain ⟨q, hq, hq4⟩ := HBAD.out (s + k) (by have := HM.out; omega)
      obtain ⟨x, hx⟩ : ∃ x, (es (s + k)).a = x := ⟨_, rfl⟩
      obtain ⟨z, hz⟩ : ∃ z, (es (s + k)).c = z := ⟨_, rfl⟩
      rw [hx] at d0
      rw [hq] at d1
      rw [hz] at d2
      have HX := Lib.hid hx
      have HQ := Lib.hid hq
      have HZ := Lib.hid hz
      have HOK := Lib.hid hok
      have hne : g ≠ wr.heap.size := fun e => by have := hb.lt; omega
      have HB := Lib.hid (hb.alloc (.cells #[.int .i64 x, .int .u8 q, .bool z] 179))
      have HE := Lib.hid (hE.keep ((Below.refl wr.heap.size wr).alloc (Nat.le_refl _) (.cells #[.int .i64 x, .int .u8 q, .bool z] 179)))
      have HK := Lib.hid (hK.alloc (.cells #[.int .i64 x, .int .u8 q, .bool z] 179))
      have HN := Lib.hid (Blk.new wr 179 #[.int .i64 x, .int .u8 q, .bool z])
      clear hx hq hz hok hb hE hK
      by_cases h1 : t < x
      · have e : pass es n t s = s + k := by rw [HPK.out]; exact pass_stop (.inr (by rw [HX.out]; exact h1))
        have hsk : s + k - s = k := by omega
        rw [e, hsk]
        go_wp2_with fail
        (try rw [Exit.noGoto_ret])
        first | go_end0 | refine bodyPost_ret (results_none rfl _ _ _) rfl ?_
        exact ⟨rfl, ⟨by have := HM.out; omega, A, c, HB.out, HE.out⟩, HK.out⟩
      · have hxt : x ≤ t := by omega
        have q0 : (0 : Int) ≤ q := by omega
        have q4 : (q : Int) < 4 := by omega
        have cq : (wr.alloc (.cells #[.int .i64 x, .int .u8 q, .bool z] 179)).cell? ⟨g, 6 + q, none⟩ = some (.bool (upTo es (s + k) q)) := by rw [HB.out.cell, hpL_up X _ _ _ _ _ _ _ hq4]
        have c1 : (wr.alloc (.cells #[.int .i64 x, .int .u8 q, .bool z] 179)).cell? ⟨g, 5, none⟩ = some (.int .i64 (s + k : Nat)) := HB.out.cell 5
        have c6 : (wr.alloc (.cells #[.int .i64 x, .int .u8 q, .bool z] 179)).cell? ⟨g, 10, none⟩ = some (.bool (roseTo es r s k)) := HB.out.cell 10
        have e0 : (wr.alloc (.cells #[.int .i64 x, .int .u8 q, .bool z] 179)).cell? ⟨wr.heap.size, 0, none⟩ = some (.int .i64 x) := HN.out.cell 0
        have e1 : (wr.alloc (.cells #[.int .i64 x, .int .u8 q, .bool z] 179)).cell? ⟨wr.heap.size, 1, none⟩ = some (.int .u8 q) := HN.out.cell 1
        have e2 : (wr.alloc (.cells #[.int .i64 x, .int .u8 q, .bool z] 179)).cell? ⟨wr.heap.size, 2, none⟩ = some (.bool z) := HN.out.cell 2
        have fq := HB.out.frozen (6 + q)
        have f1 := HB.out.frozen 5
        have f6 := HB.out.frozen 10
        by_cases h3 : q = 1
        · subst h3
          have QW : (.cells #[.int .i64 x, .int .u8 ((1 : Nat) : Int), .bool z] 179 : Obj) = (.cells #[.int .i64 x, .int .u8 1, .bool z] 179) := rfl
          rw [QW] at HB HE HK HN cq c1 c6 e0 e1 e2 fq f1 f6
          clear QW
          replace cq : (wr.alloc (.cells #[.int .i64 x, .int .u8 1, .bool z] 179)).cell? ⟨g, 7, none⟩ = some (.bool (upTo es (s + k) ((1 : Nat) : Int))) := cq
          replace e1 : (wr.alloc (.cells #[.int .i64 x, .int .u8 1, .bool z] 179)).cell? ⟨wr.heap.size, 1, none⟩ = some (.int .u8 1) := e1
          replace d1 : wr.cell? ⟨(ad.add (k * 3)).block, (ad.add (k * 3)).off + 1, none⟩ = some (.int .u8 1) := d1
          replace fq : (wr.alloc (.cells #[.int .i64 x, .int .u8 1, .bool z] 179)).frozen? ⟨g, 7, none⟩ = false := fq
          clear q0 q4
          cases z with
          | false =>
            go_wp2_with fail
            have HB2 := HB
            have HE2 := HE
            have HK2 := HK
            have HN2 := HN
            generalize World.alloc wr _ = w2 at *
            generalize wr.heap.size = eb at *
            have hro : roseTo es r s (k + 1) = roseTo es r s k := by
              simp only [roseTo]; rw [HQ.out, HZ.out]; simp
            have HRO := Lib.hid hro
            clear hro
            have hb3 := HB2.out.set_ (6 + 1) (.bool false)
            rw [hpL_set X _ _ _ _ _ _ _ hq4] at hb3
            have hup : (fun i : Nat => if i = 1 then false else upTo es (s + k) i) = fun i : Nat => upTo es (s + (k + 1)) i := by
              funext i
              rw [← Nat.add_assoc, up_step, HQ.out, HZ.out]
              by_cases e : i = 1
              · subst e; simp
              · rw [if_neg e, if_neg (by omega)]
            have g1 : (w2.setCell ⟨g, 7, none⟩ (.bool false)).cell? ⟨g, 5, none⟩ = some (.int .i64 (s + k : Nat)) := hb3.cell 5
            have h1' : (w2.setCell ⟨g, 7, none⟩ (.bool false)).frozen? ⟨g, 5, none⟩ = false := hb3.frozen 5
            rw [hup] at hb3
            have ev : (Value.int .i64 ((s : Int) + k + 1)) = .int .i64 ((s + (k + 1) : Nat) : Int) := by rw [show (s : Int) + k + 1 = ((s + (k + 1) : Nat) : Int) by omega]
            have hb4 : Blk ((w2.setCell ⟨g, 7, none⟩ (.bool false)).setCell ⟨g, 5, none⟩ (.int .i64 ((s : Int) + k + 1))) g 112 (hpL X A n c (s + (k + 1)) (fun i => upTo es (s + (k + 1)) i) (roseTo es r s (k + 1))) := by rw [ev, HRO.out]; exact hb3.set_ 5 _
            have kp : Kp [g] w2 ((w2.setCell ⟨g, 7, none⟩ (.bool false)).setCell ⟨g, 5, none⟩ (.int .i64 ((s : Int) + k + 1))) := ((Kp.refl _ _).setCell (.inl (by simp)) _).setCell (.inl (by simp)) _
            have hE4 := HE2.out.kp kp (htyped_off HB2.out)
            have hK4 := HK2.out.trans kp (by simp)
            have HI4 : Hid (HToI X w g n c s (k + 1) A es r ((w2.setCell ⟨g, 7, none⟩ (.bool false)).setCell ⟨g, 5, none⟩ (.int .i64 ((s : Int) + k + 1))).drew) := Lib.hid ⟨hb4.drew_, hE4.kp (L := []) (Kp.refl _ _).drew (fun x hx => by cases hx), hK4.drew⟩
            clear hb3 hb4 kp hE4 hK4 hup ev
            go_region
            all_goals
              go_wp2_with fail
              go_roundw
              case rel =>
                refine ⟨k + 1, by omega, by go_num, fun j hj => ?_, HI4.out⟩
                by_cases e : j = k
                · subst e; rw [HX.out]; exact hxt
                · exact HOK.out j (by omega)
              case measure => simp [intOf]; omega
          | true =>
            obtain ⟨u0, hu0⟩ : ∃ u, upTo es (s + k) ((1 : Nat) : Int) = u := ⟨_, rfl⟩
            obtain ⟨r0, hr0⟩ : ∃ u, roseTo es r s k = u := ⟨_, rfl⟩
            have hu1 : upTo es (s + k) 1 = u0 := hu0
            rw [hu0] at cq
            rw [hr0] at c6
            rw [hr0] at HB
            have HU0 := Lib.hid hu1
            have HR0 := Lib.hid hr0
            clear hu0 hu1 hr0
            cases r0
            · go_wp2_with fail
              clear d0 d1 d2 hl
              generalize World.alloc wr _ = w2 at *
              generalize wr.heap.size = eb at *
              go_region
              all_goals
                have hb6 := HB.out.set_ 10 (.bool (!u0))
                have kp6 : Kp [g] w2 ((w2.setCell ⟨g, 10, none⟩ (.bool (!u0))).drew) := ((Kp.refl _ _).setCell (.inl (by simp)) _).drew
                have HB2 : Hid (Blk ((w2.setCell ⟨g, 10, none⟩ (.bool (!u0))).drew) g 112 (hpL X A n c (s + k) (fun j => upTo es (s + k) j) (!u0))) := Lib.hid hb6
                have HE2 := Lib.hid (HE.out.kp kp6 (htyped_off HB.out))
                have HK2 := Lib.hid (HK.out.trans kp6 (by simp))
                have HN2 := Lib.hid ((HN.out.kp kp6 (by simp; exact fun e => hne e.symm)))
                have cq2 : ((w2.setCell ⟨g, 10, none⟩ (.bool (!u0))).drew).cell? ⟨g, 7, none⟩ = some (.bool (upTo es (s + k) ((1 : Nat) : Int))) := HB2.out.cell 7
                have c12 : ((w2.setCell ⟨g, 10, none⟩ (.bool (!u0))).drew).cell? ⟨g, 5, none⟩ = some (.int .i64 (s + k : Nat)) := HB2.out.cell 5
                have e12 : ((w2.setCell ⟨g, 10, none⟩ (.bool (!u0))).drew).cell? ⟨eb, 1, none⟩ = some (.int .u8 1) := HN2.out.cell 1
                have e22 : ((w2.setCell ⟨g, 10, none⟩ (.bool (!u0))).drew).cell? ⟨eb, 2, none⟩ = some (.bool true) := HN2.out.cell 2
                rw [show upTo es (s + k) ((1 : Nat) : Int) = u0 from HU0.out] at cq2
                have fq2 := HB2.out.frozen 7
                have f12 := HB2.out.frozen 5
                clear cq c1 c6 e0 e1 e2 fq f1 f6 hb6 kp6 HB HE HK HN
                generalize World.drew _ = w3 at *
                go_wp2_with fail
                have hro : roseTo es r s (k + 1) = (!u0) := by
                  simp only [roseTo]; rw [HQ.out, HZ.out, HR0.out, HU0.out]; simp
                have HRO := Lib.hid hro
                clear hro
                have hb3 := HB2.out.set_ (6 + 1) (.bool true)
                rw [hpL_set X _ _ _ _ _ _ _ hq4] at hb3
                have hup : (fun i : Nat => if i = 1 then true else upTo es (s + k) i) = fun i : Nat => upTo es (s + (k + 1)) i := by
                  funext i
                  rw [← Nat.add_assoc, up_step, HQ.out, HZ.out]
                  by_cases e : i = 1
                  · subst e; simp
                  · rw [if_neg e, if_neg (by omega)]
                have g1 : (w3.setCell ⟨g, 7, none⟩ (.bool true)).cell? ⟨g, 5, none⟩ = some (.int .i64 (s + k : Nat)) := hb3.cell 5
                have h1' : (w3.setCell ⟨g, 7, none⟩ (.bool true)).frozen? ⟨g, 5, none⟩ = false := hb3.frozen 5
                rw [hup] at hb3
                have ev : (Value.int .i64 ((s : Int) + k + 1)) = .int .i64 ((s + (k + 1) : Nat) : Int) := by rw [show (s : Int) + k + 1 = ((s + (k + 1) : Nat) : Int) by omega]
                have hb4 : Blk ((w3.setCell ⟨g, 7, none⟩ (.bool true)).setCell ⟨g, 5, none⟩ (.int .i64 ((s : Int) + k + 1))) g 112 (hpL X A n c (s + (k + 1)) (fun i => upTo es (s + (k + 1)) i) (roseTo es r s (k + 1))) := by rw [ev, HRO.out]; exact hb3.set_ 5 _
                have kp : Kp [g] w3 ((w3.setCell ⟨g, 7, none⟩ (.bool true)).setCell ⟨g, 5, none⟩ (.int .i64 ((s : Int) + k + 1))) := ((Kp.refl _ _).setCell (.inl (by simp)) _).setCell (.inl (by simp)) _
                have hE4 := HE2.out.kp kp (htyped_off HB2.out)
                have hK4 := HK2.out.trans kp (by simp)
                have HI4 : Hid (HToI X w g n c s (k + 1) A es r ((w3.setCell ⟨g, 7, none⟩ (.bool true)).setCell ⟨g, 5, none⟩ (.int .i64 ((s : Int) + k + 1))).drew) := Lib.hid ⟨hb4.drew_, hE4.kp (L := []) (Kp.refl _ _).drew (fun x hx => by cases hx), hK4.drew⟩
                clear hb3 hb4 kp hE4 hK4 hup ev
                go_region
                all_goals
                  go_wp2_with fail
                  go_roundw
                  case rel =>
                    refine ⟨k + 1, by omega, by go_num, fun j hj => ?_, HI4.out⟩
                    by_cases e : j = k
                    · subst e; rw [HX.out]; exact hxt
                    · exact HOK.out j (by omega)
                  case measure => simp [intOf]; omega
            · go_wp2_with fail
              clear d0 d1 d2 hl
              generalize World.alloc wr _ = w2 at *
              generalize wr.heap.size = eb at *
              go_region
              all_goals
                have hb6 := HB.out.set_ 10 (.bool true)
                have kp6 : Kp [g] w2 ((w2.setCell ⟨g, 10, none⟩ (.bool true)).drew) := ((Kp.refl _ _).setCell (.inl (by simp)) _).drew
                have HB2 : Hid (Blk ((w2.setCell ⟨g, 10, none⟩ (.bool true)).drew) g 112 (hpL X A n c (s + k) (fun j => upTo es (s + k) j) true)) := Lib.hid hb6
                have HE2 := Lib.hid (HE.out.kp kp6 (htyped_off HB.out))
                have HK2 := Lib.hid (HK.out.trans kp6 (by simp))
                have HN2 := Lib.hid ((HN.out.kp kp6 (by simp; exact fun e => hne e.symm)))
                have cq2 : ((w2.setCell ⟨g, 10, none⟩ (.bool true)).drew).cell? ⟨g, 7, none⟩ = some (.bool (upTo es (s + k) ((1 : Nat) : Int))) := HB2.out.cell 7
                have c12 : ((w2.setCell ⟨g, 10, none⟩ (.bool true)).drew).cell? ⟨g, 5, none⟩ = some (.int .i64 (s + k : Nat)) := HB2.out.cell 5
                have e12 : ((w2.setCell ⟨g, 10, none⟩ (.bool true)).drew).cell? ⟨eb, 1, none⟩ = some (.int .u8 1) := HN2.out.cell 1
                have e22 : ((w2.setCell ⟨g, 10, none⟩ (.bool true)).drew).cell? ⟨eb, 2, none⟩ = some (.bool true) := HN2.out.cell 2
                rw [show upTo es (s + k) ((1 : Nat) : Int) = u0 from HU0.out] at cq2
                have fq2 := HB2.out.frozen 7
                have f12 := HB2.out.frozen 5
                clear cq c1 c6 e0 e1 e2 fq f1 f6 hb6 kp6 HB HE HK HN
                generalize World.drew _ = w3 at *
                go_wp2_with fail
                have hro : roseTo es r s (k + 1) = true := by
                  simp only [roseTo]; rw [HR0.out]; simp
                have HRO := Lib.hid hro
                clear hro
                have hb3 := HB2.out.set_ (6 + 1) (.bool true)
                rw [hpL_set X _ _ _ _ _ _ _ hq4] at hb3
                have hup : (fun i : Nat => if i = 1 then true else upTo es (s + k) i) = fun i : Nat => upTo es (s + (k + 1)) i := by
                  funext i
                  rw [← Nat.add_assoc, up_step, HQ.out, HZ.out]
                  by_cases e : i = 1
                  · subst e; simp
                  · rw [if_neg e, if_neg (by omega)]
                have g1 : (w3.setCell ⟨g, 7, none⟩ (.bool true)).cell? ⟨g, 5, none⟩ = some (.int .i64 (s + k : Nat)) := hb3.cell 5
                have h1' : (w3.setCell ⟨g, 7, none⟩ (.bool true)).frozen? ⟨g, 5, none⟩ = false := hb3.frozen 5
                rw [hup] at hb3
                have ev : (Value.int .i64 ((s : Int) + k + 1)) = .int .i64 ((s + (k + 1) : Nat) : Int) := by rw [show (s : Int) + k + 1 = ((s + (k + 1) : Nat) : Int) by omega]
                have hb4 : Blk ((w3.setCell ⟨g, 7, none⟩ (.bool true)).setCell ⟨g, 5, none⟩ (.int .i64 ((s : Int) + k + 1))) g 112 (hpL X A n c (s + (k + 1)) (fun i => upTo es (s + (k + 1)) i) (roseTo es r s (k + 1))) := by rw [ev, HRO.out]; exact hb3.set_ 5 _
                have kp : Kp [g] w3 ((w3.setCell ⟨g, 7, none⟩ (.bool true)).setCell ⟨g, 5, none⟩ (.int .i64 ((s : Int) + k + 1))) := ((Kp.refl _ _).setCell (.inl (by simp)) _).setCell (.inl (by simp)) _
                have hE4 := HE2.out.kp kp (htyped_off HB2.out)
                have hK4 := HK2.out.trans kp (by simp)
                have HI4 : Hid (HToI X w g n c s (k + 1) A es r ((w3.setCell ⟨g, 7, none⟩ (.bool true)).setCell ⟨g, 5, none⟩ (.int .i64 ((s : Int) + k + 1))).drew) := Lib.hid ⟨hb4.drew_, hE4.kp (L := []) (Kp.refl _ _).drew (fun x hx => by cases hx), hK4.drew⟩
                clear hb3 hb4 kp hE4 hK4 hup ev
                go_region
                all_goals
                  go_wp2_with fail
                  go_roundw
                  case rel =>
                    refine ⟨k + 1, by omega, by go_num, fun j hj => ?_, HI4.out⟩
                    by_cases e : j = k
                    · subst e; rw [HX.out]; exact hxt
                    · exact HOK.out j (by omega)
                  case measure => simp [intOf]; omega
        · have t3 : ((q : Int) == 1) = false := by simp; omega
          go_wp2_with fail
          have HB2 := HB
          have HE2 := HE
          have HK2 := HK
          have HN2 := HN
          generalize World.alloc wr _ = w2 at *
          generalize wr.heap.size = eb at *
          have hro : roseTo es r s (k + 1) = roseTo es r s k := by
            simp only [roseTo]; rw [HQ.out, t3]; simp
          have HRO := Lib.hid hro
          clear hro
          have hb3 := HB2.out.set_ (6 + q) (.bool z)
          rw [hpL_set X _ _ _ _ _ _ _ hq4] at hb3
          have hup : (fun i : Nat => if i = q then z else upTo es (s + k) i) = fun i : Nat => upTo es (s + (k + 1)) i := by
            funext i
            rw [← Nat.add_assoc, up_step, HQ.out, HZ.out]
            by_cases e : i = q
            · subst e; simp
            · rw [if_neg e, if_neg (by omega)]
          have g1 : (w2.setCell ⟨g, 6 + q, none⟩ (.bool z)).cell? ⟨g, 5, none⟩ = some (.int .i64 (s + k : Nat)) := hb3.cell 5
          have h1' : (w2.setCell ⟨g, 6 + q, none⟩ (.bool z)).frozen? ⟨g, 5, none⟩ = false := hb3.frozen 5
          rw [hup] at hb3
          have ev : (Value.int .i64 ((s : Int) + k + 1)) = .int .i64 ((s + (k + 1) : Nat) : Int) := by rw [show (s : Int) + k + 1 = ((s + (k + 1) : Nat) : Int) by omega]
          have hb4 : Blk ((w2.setCell ⟨g, 6 + q, none⟩ (.bool z)).setCell ⟨g, 5, none⟩ (.int .i64 ((s : Int) + k + 1))) g 112 (hpL X A n c (s + (k + 1)) (fun i => upTo es (s + (k + 1)) i) (roseTo es r s (k + 1))) := by rw [ev, HRO.out]; exact hb3.set_ 5 _
          have kp : Kp [g] w2 ((w2.setCell ⟨g, 6 + q, none⟩ (.bool z)).setCell ⟨g, 5, none⟩ (.int .i64 ((s : Int) + k + 1))) := ((Kp.refl _ _).setCell (.inl (by simp)) _).setCell (.inl (by simp)) _
          have hE4 := HE2.out.kp kp (htyped_off HB2.out)
          have hK4 := HK2.out.trans kp (by simp)
          have HI4 : Hid (HToI X w g n c s (k + 1) A es r ((w2.setCell ⟨g, 6 + q, none⟩ (.bool z)).setCell ⟨g, 5, none⟩ (.int .i64 ((s : Int) + k + 1))).drew) := Lib.hid ⟨hb4.drew_, hE4.kp (L := []) (Kp.refl _ _).drew (fun x hx => by cases hx), hK4.drew⟩
          clear hb3 hb4 kp hE4 hK4 hup ev
          go_region
          all_goals
            go_wp2_with fail
            go_roundw
            case rel =>
              refine ⟨k + 1, by omega, by go_num, fun j hj => ?_, HI4.out⟩
              by_cases e : j = k
              · subst e; rw [HX.out]; exact hxt
              · exact HOK.out j (by omega)
            case measure => simp [intOf]; omega
    · obtain rfl : k = m := by omega
      have e : pass es n t s = s + k := by rw [HPK.out]; exact pass_stop (.inl (by have := HM.out; omega))
      have hsk : s + k - s = k := by omega
      rw [e, hsk]
      obtain ⟨hb, hE, hK⟩ := hI
      have HB := Lib.hid hb
      have HE := Lib.hid hE
      have HK := Lib.hid hK
      clear hb hE hK hok
      go_wp2_with fail
      (try rw [Exit.noGoto_ret])
      first | go_end0 | refine bodyPost_ret (results_none rfl _ _ _) rfl ?_
      exact ⟨rfl, ⟨by have := HM.out; omega, A, c, HB.out, HE.out⟩, HK.out⟩
end Go.Proofs.YtccimkmlbcgekaaGreat
namespace Go.Proofs.YtccimkmlbcgekaaGreat
open Go.RowKit
set_option linter.unusedVariables false
set_option linter.unusedSimpArgs false
set_option maxRecDepth 100000
/-- What is disabled, and whether the timer asks. -/
structure Iq where
  d : Nat
  due : Bool
def Iq.wr (s : Iq) (reg b : Int) : Iq := if reg = 2 then ⟨(b % 8).toNat, s.due⟩ else if reg = 3 then ⟨s.d, false⟩ else s
theorem Iq.wr_ok {s : Iq} (h : s.d ≤ 7) (reg b : Int) : (s.wr reg b).d ≤ 7 := by
  unfold Iq.wr
  split
  · dsimp only; omega
  · split <;> exact h
/-- The cells of a controller, laid at place o. -/
def iqPut (cs : Array Value) (o : Nat) (s : Iq) : Array Value := (cs.setIfInBounds o (.int .u8 s.d)).setIfInBounds (o + 1) (.bool s.due)
section
variable {cs : Array Value} {o : Nat} {s : Iq}
theorem iqPut_size : (iqPut cs o s).size = cs.size := by simp [iqPut]
theorem iqPut_at (i : Nat) (h : o + 2 ≤ cs.size) : (iqPut cs o s)[i]? = if i = o then some (.int .u8 s.d) else if i = o + 1 then some (.bool s.due) else cs[i]? := by
  unfold iqPut
  simp only [Array.getElem?_setIfInBounds, Array.size_setIfInBounds]
  by_cases e0 : i = o
  · subst e0; simp; omega
  by_cases e1 : i = o + 1
  · subst e1; simp; omega
  rw [if_neg (by omega), if_neg (by omega), if_neg e0, if_neg e1]
theorem iqPut_d (h : o + 2 ≤ cs.size) (x : Nat) : (iqPut cs o s).setIfInBounds o (.int .u8 x) = iqPut cs o ⟨x, s.due⟩ := by
  apply Array.ext_getElem?
  intro i
  rw [Array.getElem?_setIfInBounds, iqPut_at i h, iqPut_at i h, iqPut_size]
  by_cases e : o = i
  · subst e; simp; omega
  · have e' : ¬ i = o := fun x => e x.symm
    rw [if_neg e]
    simp only [if_neg e']
theorem iqPut_due (h : o + 2 ≤ cs.size) (x : Bool) : (iqPut cs o s).setIfInBounds (o + 1) (.bool x) = iqPut cs o ⟨s.d, x⟩ := by
  apply Array.ext_getElem?
  intro i
  rw [Array.getElem?_setIfInBounds, iqPut_at i h, iqPut_at i h, iqPut_size]
  by_cases e : o + 1 = i
  · subst e; simp; omega
  · have e' : ¬ i = o + 1 := fun x => e x.symm
    rw [if_neg e]
    simp only [if_neg e']
end
/-- At place o of block g, whose other cells are those of cs, there is a controller. -/
def IQ (w : World) (g : Nat) (T : TypeId) (cs : Array Value) (o : Nat) (s : Iq) : Prop := Blk w g T (iqPut cs o s) ∧ o + 2 ≤ cs.size ∧ s.d ≤ 7
section
variable {w w' : World} {g : Nat} {T : TypeId} {cs : Array Value} {o : Nat} {s : Iq}
theorem IQ.kp {L : List Nat} (h : IQ w g T cs o s) (k : Kp L w w') (hL : g ∉ L) : IQ w' g T cs o s := ⟨h.1.kp k hL, h.2⟩
theorem IQ.keep {n : Nat} (h : IQ w g T cs o s) (k : Below n w w') (hn : g < n) : IQ w' g T cs o s := ⟨h.1.below k hn, h.2⟩
theorem IQ.lt (h : IQ w g T cs o s) : g < w.heap.size := h.1.lt
theorem IQ.cells (h : IQ w g T cs o s) : w.cell? ⟨g, o, none⟩ = some (.int .u8 s.d) ∧ w.cell? ⟨g, o + 1, none⟩ = some (.bool s.due) := by
  obtain ⟨hb, hs, _⟩ := h
  refine ⟨?_, ?_⟩ <;> rw [hb.cell, iqPut_at _ hs] <;> simp
theorem IQ.put {x : Value} {k : Nat} {s' : Iq} (h : IQ w g T cs o s) (e : (iqPut cs o s).setIfInBounds k x = iqPut cs o s') (hs : s'.d ≤ 7) : IQ (w.setCell ⟨g, k, none⟩ x) g T cs o s' ∧ Kp [g] w (w.setCell ⟨g, k, none⟩ x) := by
  refine ⟨⟨?_, h.2.1, hs⟩, (Kp.refl _ _).setCell (.inl (by simp)) _⟩
  rw [← e]
  exact h.1.set_ k x
end
/-- What a call on a controller leaves. -/
def IqR (v : Value) (g : Nat) (T : TypeId) (cs : Array Value) (o : Nat) (s : Iq) (w : World) (e : Ending) (w' : World) : Prop := e = .returned v ∧ IQ w' g T cs o s ∧ Kp [g] w w'
section
variable {w : World} {g : Nat} {T : TypeId} {cs : Array Value} {o : Nat} {s : Iq}
theorem qdisable_any (h : IQ w g T cs o s) :
    Calls Tryz.prog 138 #[.pointer (some ⟨g, o, none⟩)] w fun e w' => e = .returned (.int .u8 s.d) ∧ w = w' := by
  obtain ⟨c0, c1⟩ := h.cells
  clear h
  go_enter Tryz.func138, Tryz.ntmps138
  go_wp2
  go_ret
  exact ⟨rfl, rfl⟩
theorem qdue_any (h : IQ w g T cs o s) :
    Calls Tryz.prog 142 #[.pointer (some ⟨g, o, none⟩)] w fun e w' => e = .returned (.bool s.due) ∧ w = w' := by
  obtain ⟨c0, c1⟩ := h.cells
  clear h
  go_enter Tryz.func142, Tryz.ntmps142
  go_wp2
  go_ret
  exact ⟨rfl, rfl⟩
theorem qover_any (h : IQ w g T cs o s) :
    Calls Tryz.prog 166 #[.pointer (some ⟨g, o, none⟩)] w (IqR (.tuple #[]) g T cs o ⟨s.d, true⟩ w) := by
  have hz := h.2.1
  obtain ⟨c0, c1⟩ := h.cells
  have f1 := h.1.frozen (o + 1)
  have H := Lib.hid h
  have HZ := Lib.hid hz
  clear h hz
  go_enter Tryz.func166, Tryz.ntmps166
  go_wp2
  first | go_end0 | refine bodyPost_ret (results_none rfl _ _ _) rfl ?_
  obtain ⟨q1, q2⟩ := H.out.put (iqPut_due HZ.out true) H.out.2.2
  exact ⟨rfl, q1, q2⟩
theorem qwrite_any (h : IQ w g T cs o s) (reg b : Int) (b0 : 0 ≤ b) (b1 : b ≤ 255) :
    Calls Tryz.prog 132 #[.pointer (some ⟨g, o, none⟩), .int .i64 reg, .int .u8 b] w (IqR (.tuple #[]) g T cs o (s.wr reg b) w) := by
  have hz := h.2.1
  obtain ⟨c0, c1⟩ := h.cells
  have f0 := h.1.frozen o
  have f1 := h.1.frozen (o + 1)
  have H := Lib.hid h
  have HZ := Lib.hid hz
  clear h hz
  by_cases h2 : reg = 2
  · subst h2
    have e : s.wr 2 b = ⟨(b % 8).toNat, s.due⟩ := by unfold Iq.wr; rw [if_pos rfl]
    rw [e]
    have i1 : ((b % 8).toNat : Int) = b % 8 := by omega
    obtain ⟨p1, p2⟩ := H.out.put (iqPut_d HZ.out (b % 8).toNat) (s' := ⟨(b % 8).toNat, s.due⟩) (by dsimp only; omega)
    rw [i1] at p1 p2
    have P1 := Lib.hid p1
    have P2 := Lib.hid p2
    clear e i1 p1 p2
    go_enter Tryz.func132, Tryz.ntmps132
    go_wp2
    first | go_end0 | refine bodyPost_ret (results_none rfl _ _ _) rfl ?_
    exact ⟨rfl, P1.out, P2.out⟩
  · by_cases h3 : reg = 3
    · subst h3
      have e : s.wr 3 b = ⟨s.d, false⟩ := by unfold Iq.wr; rw [if_neg (by omega), if_pos rfl]
      rw [e]
      clear e h2
      go_enter Tryz.func132, Tryz.ntmps132
      go_wp2
      first | go_end0 | refine bodyPost_ret (results_none rfl _ _ _) rfl ?_
      obtain ⟨q1, q2⟩ := H.out.put (iqPut_due HZ.out false) H.out.2.2
      exact ⟨rfl, q1, q2⟩
    · have e : s.wr reg b = s := by unfold Iq.wr; rw [if_neg h2, if_neg h3]
      rw [e]
      have n0 : (reg == 2) = false := by simpa using h2
      have n1 : (reg == 3) = false := by simpa using h3
      clear e
      go_enter Tryz.func132, Tryz.ntmps132
      go_wp2
      first | go_end0 | refine bodyPost_ret (results_none rfl _ _ _) rfl ?_
      exact ⟨rfl, H.out, Kp.refl _ _⟩
def QCloneR (s : Iq) (w : World) (e : Ending) (w' : World) : Prop :=
  e = .returned (.pointer (some ⟨w.heap.size, 0, none⟩)) ∧ IQ w' w.heap.size 99 (Array.replicate 2 .nilFunc) 0 s ∧ Below w.heap.size w w'
theorem qclone_any (h : IQ w g T cs o s) :
    Calls Tryz.prog 114 #[.pointer (some ⟨g, o, none⟩)] w (QCloneR s w) := by
  have hk := h.2.2
  obtain ⟨c0, c1⟩ := h.cells
  have HK := Lib.hid hk
  clear h hk
  go_enter Tryz.func114, Tryz.ntmps114
  go_wp2
  go_ret
  exact ⟨rfl, ⟨Blk.new w _ _, by decide, HK.out⟩, (Below.refl _ _).alloc (Nat.le_refl _) _⟩
end
def NewQR (w : World) (e : Ending) (w' : World) : Prop :=
  e = .returned (.pointer (some ⟨w.heap.size, 0, none⟩)) ∧ IQ w' w.heap.size 99 (Array.replicate 2 .nilFunc) 0 ⟨0, false⟩ ∧ Below w.heap.size w w'
theorem qnew_any (w : World) : Calls Tryz.prog 43 #[] w (NewQR w) := by
  go_enter Tryz.func43, Tryz.ntmps43
  go_wp2
  go_ret
  exact ⟨rfl, ⟨Blk.new w _ _, by decide, by decide⟩, (Below.refl _ _).alloc (Nat.le_refl _) _⟩
section
variable (w : World)
theorem qdisable_nil : Calls Tryz.prog 138 #[.pointer none] w fun e w' => e = .returned (.int .u8 0) ∧ w = w' := by
  go_enter Tryz.func138, Tryz.ntmps138
  go_wp2
  go_ret
  exact ⟨rfl, rfl⟩
theorem qdue_nil : Calls Tryz.prog 142 #[.pointer none] w fun e w' => e = .returned (.bool false) ∧ w = w' := by
  go_enter Tryz.func142, Tryz.ntmps142
  go_wp2
  go_ret
  exact ⟨rfl, rfl⟩
theorem qover_nil : Calls Tryz.prog 166 #[.pointer none] w fun e w' => e = .returned (.tuple #[]) ∧ w = w' := by
  go_enter Tryz.func166, Tryz.ntmps166
  go_wp2
  first | go_end0 | refine bodyPost_ret (results_none rfl _ _ _) rfl ?_
  exact ⟨rfl, rfl⟩
theorem qwrite_nil (r b : Int) : Calls Tryz.prog 132 #[.pointer none, .int .i64 r, .int .u8 b] w fun e w' => e = .returned (.tuple #[]) ∧ w = w' := by
  go_enter Tryz.func132, Tryz.ntmps132
  go_wp2
  first | go_end0 | refine bodyPost_ret (results_none rfl _ _ _) rfl ?_
  exact ⟨rfl, rfl⟩
theorem qclone_nil : Calls Tryz.prog 114 #[.pointer none] w fun e w' => e = .returned (.pointer none) ∧ w = w' := by
  go_enter Tryz.func114, Tryz.ntmps114
  go_wp2
  go_ret
  exact ⟨rfl, rfl⟩
end
end Go.Proofs.YtccimkmlbcgekaaGreat
namespace Go.Proofs.YtccimkmlbcgekaaGreat
open Go.RowKit
set_option linter.unusedVariables false
set_option linter.unusedSimpArgs false
set_option maxRecDepth 100000
def inI (k f : Int) : Bool := decide (f ≤ k ∧ k ≤ 5)
theorem within_any (k f : Int) (w : World) :
    Calls Tryz.prog 201 #[.int .u8 k, .int .u8 f] w fun e w' => e = .returned (.bool (inI k f)) ∧ w = w' := by
  unfold inI
  by_cases h1 : f ≤ k
  · by_cases h2 : k ≤ 5
    · rw [decide_eq_true ⟨h1, h2⟩]
      go_enter Tryz.func201, Tryz.ntmps201
      go_wp2
      go_ret
      exact ⟨rfl, rfl⟩
    · rw [decide_eq_false (by omega)]
      have h2' : 5 < k := by omega
      go_enter Tryz.func201, Tryz.ntmps201
      go_wp2
      go_ret
      exact ⟨rfl, rfl⟩
  · rw [decide_eq_false (by omega)]
    have h1' : k < f := by omega
    go_enter Tryz.func201, Tryz.ntmps201
    go_wp2
    go_ret
    exact ⟨rfl, rfl⟩
theorem within_v {k f : Int} {x : Bool} {w : World} (e : inI k f = x) : Calls Tryz.prog 201 #[.int .u8 k, .int .u8 f] w fun e w' => e = .returned (.bool x) ∧ w = w' := e ▸ within_any k f w
/-- The bit of a kind. -/
def kbI (k : Int) : Int := if 3 ≤ k ∧ k ≤ 5 then 5 - k else -1
theorem kbit_any (k : Int) (w : World) (k0 : 0 ≤ k) (k1 : k ≤ 255) :
    Calls Tryz.prog 193 #[.int .u8 k] w fun e w' => e = .returned (.int .i64 (kbI k)) ∧ w = w' := by
  unfold kbI
  by_cases h : 3 ≤ k ∧ k ≤ 5
  · rw [if_pos h]
    have hin : inI k 3 = true := decide_eq_true h
    obtain ⟨h1, h2⟩ := h
    go_enter Tryz.func193, Tryz.ntmps193
    go_wp2_with (go_at_call 201; refine (within_v hin).mono ?_; rintro e w' ⟨rfl, rfl⟩)
    go_ret
    exact ⟨rfl, rfl⟩
  · rw [if_neg h]
    have hin : inI k 3 = false := decide_eq_false h
    clear h
    go_enter Tryz.func193, Tryz.ntmps193
    go_wp2_with (go_at_call 201; refine (within_v hin).mono ?_; rintro e w' ⟨rfl, rfl⟩)
    go_ret
    exact ⟨rfl, rfl⟩
theorem kbit_v {k x : Int} {w : World} (k0 : 0 ≤ k) (k1 : k ≤ 255) (e : kbI k = x) : Calls Tryz.prog 193 #[.int .u8 k] w fun e w' => e = .returned (.int .i64 x) ∧ w = w' := e ▸ kbit_any k w k0 k1
/-- May a kind not come? -/
def barI (d k : Int) (m : Bool) : Bool := decide (3 ≤ k ∧ k ≤ 5) && (m || bitB d (5 - k))
section
variable {w : World} {p : Option Addr} {d : Int}
theorem barred_of (hd : Calls Tryz.prog 138 #[.pointer p] w fun e w' => e = .returned (.int .u8 d) ∧ w = w') (k : Int) (m : Bool) (k0 : 0 ≤ k) (k1 : k ≤ 255) :
    Calls Tryz.prog 179 #[.pointer p, .int .u8 k, .bool m] w fun e w' => e = .returned (.bool (barI d k m)) ∧ w = w' := by
  by_cases h : 3 ≤ k ∧ k ≤ 5
  · have hb : kbI k = 5 - k := by unfold kbI; rw [if_pos h]
    cases m with
    | true =>
      have e : barI d k true = true := by unfold barI; rw [decide_eq_true h]; rfl
      rw [e]
      obtain ⟨h1, h2⟩ := h
      clear e hd
      go_enter Tryz.func179, Tryz.ntmps179
      go_wp2_with (go_at_call 193; refine (kbit_v k0 k1 hb).mono ?_; rintro e w' ⟨rfl, rfl⟩)
      go_ret
      exact ⟨rfl, rfl⟩
    | false =>
      have e : barI d k false = bitB d (5 - k) := by unfold barI; rw [decide_eq_true h]; rfl
      rw [e]
      obtain ⟨h1, h2⟩ := h
      clear e
      go_enter Tryz.func179, Tryz.ntmps179
      go_wp2_with (first | (go_at_call 193; refine (kbit_v k0 k1 hb).mono ?_; rintro e w' ⟨rfl, rfl⟩) | (go_at_call 138; refine hd.mono ?_; rintro e w' ⟨rfl, rfl⟩) | (go_at_call 27; refine (bit_any _ _ _).mono ?_; rintro e w' ⟨rfl, rfl⟩))
      go_ret
      exact ⟨rfl, rfl⟩
  · have e : barI d k m = false := by unfold barI; rw [decide_eq_false h]; rfl
    have hb : kbI k = -1 := by unfold kbI; rw [if_neg h]
    rw [e]
    clear e h hd
    go_enter Tryz.func179, Tryz.ntmps179
    go_wp2_with (go_at_call 193; refine (kbit_v k0 k1 hb).mono ?_; rintro e w' ⟨rfl, rfl⟩)
    go_ret
    exact ⟨rfl, rfl⟩
end
end Go.Proofs.YtccimkmlbcgekaaGreat
