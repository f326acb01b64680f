/-
  Texts of these proofs, one behind the other: Tm9, Tm10, Tm11.
-/
import Derived.Test.YtmbbcfdeielopaaDoorRRRRKTK26
import Derived.Test.YtmbbcfdeielopaaDoorRRRRKTK28
import Derived.Test.YtmbbcfdeielopaaDoorRRRRKTK29
namespace Go.Proofs.YtmbbcfdeielopaaDoorRRRR
open Go.RowKit
set_option linter.unusedVariables false
set_option linter.unusedSimpArgs false
set_option maxRecDepth 100000
set_option maxHeartbeats 8000000
/-- The letters of an entry. -/
def enL (k : Nat) : List UInt8 := if k = 1 then [68, 68, 68, 68, 68, 86, 86, 68] else if 2 ≤ k ∧ k ≤ 5 then [68, 68, 80, 80, 80, 86, 86, 68] else []
theorem tentry_any (k : Nat) (w : World) :
    Calls Tryd.prog 13 #[.int .u8 (k : Int)] w fun e w' => ∃ v, e = .returned v ∧ w'.ownsRow w.heap.size 5 1 v (enL k).length (kdV (enL k)) ∧ Below w.heap.size w w' := by
  by_cases h : 1 ≤ k ∧ k ≤ 5
  · obtain ⟨X, hX, hE⟩ : ∃ X : ByteArray, (k = 1 ∧ X = ⟨#[68, 68, 68]⟩ ∨ k ≠ 1 ∧ X = ⟨#[80, 80, 80]⟩) ∧ enL k = ([⟨#[68, 68]⟩, X, ⟨#[86, 86, 68]⟩].map (·.data.toList)).flatten := by
      by_cases h1 : k = 1
      · exact ⟨_, .inl ⟨h1, rfl⟩, by subst h1; rfl⟩
      · exact ⟨_, .inr ⟨h1, rfl⟩, by unfold enL; rw [if_neg h1, if_pos (by omega)]; rfl⟩
    have hkd := fun (g : Nat) (W : World) (h : Blk W g 9 ([⟨#[68, 68]⟩, X, ⟨#[86, 86, 68]⟩].map Value.string).toArray) => tkinds_any g 3 [⟨#[68, 68]⟩, X, ⟨#[86, 86, 68]⟩] W h (by simp) (by rcases hX with ⟨_, rfl⟩ | ⟨_, rfl⟩ <;> decide) (by rcases hX with ⟨_, rfl⟩ | ⟨_, rfl⟩ <;> decide)
    rw [← hE] at hkd
    have hk : k = 1 ∨ k = 2 ∨ k = 3 ∨ k = 4 ∨ k = 5 := by omega
    have HKD := Lib.hid hkd
    clear hkd hE h
    rcases hX with ⟨h1, rfl⟩ | ⟨h1, rfl⟩
    · subst h1
      clear hk
      go_enter Tryd.func13, Tryd.ntmps13
      go_wp2_with fail
      refine (HKD.out _ _ (Blk.new_ rfl)).mono ?_
      rintro e w7 ⟨v, rfl, hv, hb7⟩
      have HV := Lib.hid hv
      have HB7 := Lib.hid (((Below.refl _ w).alloc (Nat.le_refl _) _).trans (hb7.mono (by simp)))
      clear hv hb7
      go_wp2_with fail
      go_ret
      exact ⟨_, rfl, own_mono HV.out (by simp), HB7.out⟩
    · rcases hk with rfl | rfl | rfl | rfl | rfl
      · exact absurd rfl h1
      all_goals
        clear h1
        go_enter Tryd.func13, Tryd.ntmps13
        go_wp2_with fail
        refine (HKD.out _ _ (Blk.new_ rfl)).mono ?_
        rintro e w7 ⟨v, rfl, hv, hb7⟩
        have HV := Lib.hid hv
        have HB7 := Lib.hid (((Below.refl _ w).alloc (Nat.le_refl _) _).trans (hb7.mono (by simp)))
        clear hv hb7
        go_wp2_with fail
        go_ret
        exact ⟨_, rfl, own_mono HV.out (by simp), HB7.out⟩
  · have e0 : enL k = [] := by unfold enL; rw [if_neg (by omega), if_neg (by omega)]
    rw [e0]
    have e1 : ((k : Int) == 1) = false := by simp; omega
    have e2 : ((k : Int) == 2) = false := by simp; omega
    have e3 : ((k : Int) == 3) = false := by simp; omega
    have e4 : ((k : Int) == 4) = false := by simp; omega
    have e5 : ((k : Int) == 5) = false := by simp; omega
    clear h e0
    go_enter Tryd.func13, Tryd.ntmps13
    go_wp2_with fail
    go_ret
    exact ⟨_, rfl, World.ownsRow_nil _ _ _ _, Below.refl _ w⟩
/-- How many accesses a byte takes at most. -/
def cntM (j : Nat) : Int := ((tmL j true true true 65536).length : Int)
def mostF (z : Nat → Int) : Nat → Nat → Int
  | 0, _ => 0
  | k + 1, j => if (j : Int) = z k then cntM j else mostF z k j
def bigM (z : Nat → Int) : Nat → Int
  | 0 => 0
  | k + 1 => if bigM z k < cntM (z k).toNat then cntM (z k).toNat else bigM z k
theorem cntM_bd (j : Nat) (hj : j < 256) : 2 ≤ cntM j ∧ cntM j ≤ 400000 := by
  have h := tmA_bd ⟨j, hj⟩ true true true
  have h2 := tmA_ok ⟨j, hj⟩ true true true
  have h3 := tmMv_bd (opM j) 65536
  dsimp only at h h2
  unfold cntM
  rw [tmL_len]
  omega
theorem mostF_or (z : Nat → Int) (j : Nat) : ∀ k, mostF z k j = 0 ∨ mostF z k j = cntM j
  | 0 => .inl rfl
  | k + 1 => by
    unfold mostF
    split
    · exact .inr rfl
    · exact mostF_or z j k
theorem mostF_le (z : Nat → Int) (j : Nat) (hj : j < 256) : ∀ k, mostF z k j ≤ bigM z k
  | 0 => Int.le_refl _
  | k + 1 => by
    have ih := mostF_le z j hj k
    unfold mostF bigM
    split
    · rename_i e
      have : (z k).toNat = j := by omega
      rw [this]
      split <;> omega
    · split <;> omega
theorem bigM_at (z : Nat → Int) (hz : ∀ i, 0 ≤ z i ∧ z i < 256) : ∀ k, bigM z k = 0 ∨ ∃ j, j < 256 ∧ bigM z k ≤ mostF z k j
  | 0 => .inl rfl
  | k + 1 => by
    have hk := hz k
    unfold bigM
    split
    · refine .inr ⟨(z k).toNat, by omega, ?_⟩
      unfold mostF
      rw [if_pos (by omega)]
      exact Int.le_refl _
    · rcases bigM_at z hz k with h | ⟨j, hj, h⟩
      · exact .inl h
      · refine .inr ⟨j, hj, ?_⟩
        unfold mostF
        split
        · rename_i e
          have : (z k).toNat = j := by omega
          rw [this] at *
          have := mostF_or z j k
          have := cntM_bd j hj
          omega
        · exact h
theorem maxOf_eq (f : Nat → Int) (M : Int) (h0 : 0 ≤ M) (hle : ∀ j, j < 256 → 0 ≤ f j ∧ f j ≤ M) (hat : M = 0 ∨ ∃ j, j < 256 ∧ M ≤ f j) : Lib.maxOf (((List.range 256).map f).take 256) = M := by
  have hlen : ((List.range 256).map f).length = 256 := by simp
  have hget : ∀ k, k < 256 → ((List.range 256).map f).getD k 0 = f k := fun k hk => by simp [List.getD, hk]
  have key : ∀ k, k + 1 ≤ 256 → (∀ j, j ≤ k → f j ≤ Lib.maxOf (((List.range 256).map f).take (k + 1))) ∧ ∃ j, j ≤ k ∧ Lib.maxOf (((List.range 256).map f).take (k + 1)) = f j := by
    intro k
    induction k with
    | zero =>
      intro _
      rw [Lib.maxOf_one, hget 0 (by omega)]
      exact ⟨fun j hj => by obtain rfl : j = 0 := by omega
                            exact Int.le_refl _, 0, by omega, rfl⟩
    | succ k ih =>
      intro hk
      obtain ⟨i1, j, hj, i2⟩ := ih (by omega)
      rw [Lib.maxOf_step _ (k + 1) (by omega) (by rw [hlen]; omega), hget (k + 1) (by omega)]
      refine ⟨fun i hi => ?_, ?_⟩
      · by_cases e : i = k + 1
        · subst e; omega
        · have := i1 i (by omega); omega
      · by_cases e : Lib.maxOf (((List.range 256).map f).take (k + 1)) ≤ f (k + 1)
        · exact ⟨k + 1, by omega, by omega⟩
        · exact ⟨j, by omega, by omega⟩
  have key2 : (∀ j, j ≤ 255 → f j ≤ Lib.maxOf (((List.range 256).map f).take 256)) ∧ ∃ j, j ≤ 255 ∧ Lib.maxOf (((List.range 256).map f).take 256) = f j := key 255 (by omega)
  obtain ⟨X, hX⟩ : ∃ X, Lib.maxOf (((List.range 256).map f).take 256) = X := ⟨_, rfl⟩
  rw [hX] at key2 ⊢
  clear key hget hX
  obtain ⟨h1, j, hj, h2⟩ := key2
  have := hle j (by omega)
  rcases hat with h | ⟨i, hi, h⟩
  · omega
  · have := h1 i (by omega); omega
end Go.Proofs.YtmbbcfdeielopaaDoorRRRR
namespace Go.Proofs.YtmbbcfdeielopaaDoorRRRR
open Go.RowKit
set_option linter.unusedVariables false
set_option linter.unusedSimpArgs false
set_option maxRecDepth 100000
set_option maxHeartbeats 8000000
/-- What has been counted so far. -/
def BhR (w0 wr : World) (M : Nat) (z : Nat → Int) (k : Nat) : Prop := Blk wr M 66 (iArr .i64 256 (mostF z k)) ∧ Below w0.heap.size w0 wr ∧ w0.heap.size ≤ M
theorem mostF_congr (z z' : Nat → Int) (n : Nat) (h : ∀ i, i < n → z i = z' i) (j : Nat) : ∀ k, k ≤ n → mostF z k j = mostF z' k j
  | 0, _ => rfl
  | k + 1, hk => by unfold mostF; rw [h k (by omega), mostF_congr z z' n h j k (by omega)]
theorem bigM_congr (z z' : Nat → Int) (n : Nat) (h : ∀ i, i < n → z i = z' i) : ∀ k, k ≤ n → bigM z k = bigM z' k
  | 0, _ => rfl
  | k + 1, hk => by unfold bigM; rw [h k (by omega), bigM_congr z z' n h k (by omega)]
theorem bigM_bd (z : Nat → Int) (n : Nat) (hz : ∀ i, i < n → 0 ≤ z i ∧ z i ≤ 255) : ∀ k, k ≤ n → 0 ≤ bigM z k ∧ bigM z k ≤ 400000
  | 0, _ => by unfold bigM; omega
  | k + 1, hk => by
    have ih := bigM_bd z n hz k (by omega)
    have h1 := hz k (by omega)
    have h2 := cntM_bd (z k).toNat (by omega)
    unfold bigM
    split <;> omega
/-- The most of a row of bytes, wherever they are known. -/
theorem most_all (z : Nat → Int) (n : Nat) (hz : ∀ i, i < n → 0 ≤ z i ∧ z i ≤ 255) : Lib.maxOf (((List.range 256).map (mostF z n)).take 256) = bigM z n := by
  have h : ∀ i, i < n → z i = (fun i => if i < n then z i else 0) i := fun i hi => (if_pos hi).symm
  have hz' : ∀ i, 0 ≤ (fun i => if i < n then z i else 0) i ∧ (fun i => if i < n then z i else 0) i < 256 := fun i => by
    dsimp only
    by_cases hi : i < n
    · rw [if_pos hi]; have := hz i hi; omega
    · rw [if_neg hi]; omega
  have e : mostF z n = mostF (fun i => if i < n then z i else 0) n := funext fun j => mostF_congr z _ n h j n (Nat.le_refl _)
  rw [e, bigM_congr z _ n h n (Nat.le_refl _)]
  refine maxOf_eq _ _ ?_ (fun j hj => ?_) (bigM_at _ hz' n)
  · have h1 := mostF_le (fun i => if i < n then z i else 0) 0 (by omega) n
    have h2 := mostF_or (fun i => if i < n then z i else 0) 0 n
    have := cntM_bd 0 (by omega)
    omega
  · have h1 := mostF_le (fun i => if i < n then z i else 0) j hj n
    have h2 := mostF_or (fun i => if i < n then z i else 0) j n
    have := cntM_bd j hj
    omega
theorem tbehind_any (A : Option Addr) (n c : Nat) (z : Nat → Int) (hn : n ≤ 1000000) (w : World) (R : IRow w .u8 A n z) :
    Calls Tryd.prog 18 #[.slice A n c] w fun e w' => e = .returned (.int .i64 (bigM z n + 8)) ∧ Below w.heap.size w w' := by
  have HR := Lib.hid R
  have hwf : ∀ i, i < n → 0 ≤ z i ∧ z i ≤ 255 := fun i hi => by obtain ⟨_, _, _, _, h⟩ := R i hi; exact bounds_u8 h
  have HM := Lib.hid (most_all z n hwf)
  have HBD := Lib.hid (bigM_bd z n hwf n (Nat.le_refl _))
  clear R hwf
  obtain ⟨w1, hw1⟩ : ∃ w1, w.alloc (.cells Tryd.zeroCells66 66) = w1 := ⟨_, rfl⟩
  have h0 : BhR w w1 w.heap.size z 0 := by
    rw [← hw1]
    refine ⟨?_, (Below.refl _ w).alloc (Nat.le_refl _) _, Nat.le_refl _⟩
    rw [show iArr .i64 256 (mostF z 0) = Tryd.zeroCells66 by rfl]
    exact Blk.new w _ _
  obtain ⟨M, hM⟩ : ∃ M, w.heap.size = M := ⟨_, rfl⟩
  have HW1 := Lib.hid hw1
  have h00 : BhR w w1 M z 0 := hM ▸ h0
  have H0 := Lib.hid h00
  clear h0 h00 hw1
  go_enter Tryd.func18, Tryd.ntmps18
  go_upto_region 2 with fail
  rw [HW1.out]
  have HMM := Lib.hid hM
  clear hM HW1
  go_wp2_with fail
  go_loopw [8] (fun i wr => ∃ k : Nat, k ≤ n ∧ i = .int .i64 k ∧ BhR w wr M z k) (fun i _ => n - (intOf i).toNat)
  case atStart => exact ⟨0, by omega, rfl, H0.out⟩
  case round =>
    obtain ⟨k, hk, rfl, hB⟩ := hrel
    have HB := Lib.hid hB
    clear hB
    by_cases hlt : k < n
    · obtain ⟨ad, rfl, hal, hc, hwf⟩ := HR.out k hlt
      obtain ⟨z0, z1⟩ := bounds_u8 hwf
      obtain ⟨b1, b2, b3⟩ := HB.out
      have hc2 : wr.cell? (ad.add k) = some (.int .u8 (z k)) := (b2.cell (by rw [block_of_add]; exact hal)).trans hc
      obtain ⟨b, hb⟩ : ∃ b : Nat, z k = (b : Int) := ⟨(z k).toNat, by omega⟩
      have hb256 : b < 256 := by omega
      have hcm : wr.cell? ⟨M, b, none⟩ = some (.int .i64 (mostF z k b)) := by rw [b1.cell b]; exact iArr_at .i64 256 _ b hb256
      have hfm : wr.frozen? ⟨M, b, none⟩ = false := b1.frozen b
      have hor := mostF_or z b k
      have hbd := cntM_bd b hb256
      have HS : Hid (∀ j, mostF z (k + 1) j = if (j : Int) = (b : Int) then cntM j else mostF z k j) := Lib.hid fun j => by rw [← hb]; rfl
      rw [hb] at hc2 z0 z1
      have hct := fun W => tcount_any b hb256 true true true 65536 W
      rw [show ((tmL b true true true 65536).length : Int) = cntM b from rfl, show fcA true true true 65536 = #[.bool true, .bool true, .bool true, .int .i64 65536] from rfl] at hct
      obtain ⟨x, hx⟩ : ∃ x, mostF z k b = x := ⟨_, rfl⟩
      obtain ⟨y, hy⟩ : ∃ y, cntM b = y := ⟨_, rfl⟩
      rw [hx] at hcm hor
      rw [hy] at hor hbd hct
      have HX := Lib.hid hx
      have HY := Lib.hid hy
      have HBB := Lib.hid hb
      clear b1 b2 b3 hc hwf hb hx hy
      by_cases h0 : x = 0
      · have hx0 : (x == 0) = true := by simpa using h0
        have H0x := Lib.hid h0
        clear h0 hor
        go_wp2_with fail
        refine (hct _).mono ?_
        rintro e w2 ⟨rfl, hb2⟩
        have k2 := HB.out.1.below hb2 HB.out.1.lt
        have HB2 := Lib.hid (HB.out.2.1.trans (hb2.mono HB.out.2.1.size))
        have hc3 : w2.cell? ⟨M, b, none⟩ = some (.int .i64 (mostF z k b)) := by rw [k2.cell b]; exact iArr_at .i64 256 _ b hb256
        have hf3 : w2.frozen? ⟨M, b, none⟩ = false := k2.frozen b
        have HK : Hid (BhR w (w2.setCell ⟨M, b, none⟩ (.int .i64 y)) M z (k + 1)) := Lib.hid ⟨by
            have := k2.set_ b (.int .i64 y)
            rw [iArr_set] at this
            rw [show iArr .i64 256 (mostF z (k + 1)) = iArr .i64 256 (fun j => if j = b then y else mostF z k j) from iArr_congr fun j _ => by
              rw [HS.out j]
              by_cases e : j = b
              · subst e; rw [if_pos rfl, if_pos rfl, HY.out]
              · rw [if_neg (by omega), if_neg e]]
            exact this, HB2.out.setCell HB.out.2.2 _, HB.out.2.2⟩
        clear k2 hb2 hcm hfm hct
        go_wp2_with fail
        go_roundw
        case rel => exact ⟨k + 1, by omega, by go_num, HK.out⟩
        case measure => simp [intOf]; omega
      · have hx0 : (x == 0) = false := by simpa using h0
        have HK : Hid (BhR w wr M z (k + 1)) := Lib.hid ⟨by
            rw [show iArr .i64 256 (mostF z (k + 1)) = iArr .i64 256 (mostF z k) from iArr_congr fun j _ => by
              rw [HS.out j]
              by_cases e : j = b
              · subst e; rw [if_pos rfl, HX.out, HY.out]; omega
              · rw [if_neg (by omega)]]
            exact HB.out.1, HB.out.2.1, HB.out.2.2⟩
        clear h0 hor hct
        go_wp2_with fail
        go_roundw
        case rel => exact ⟨k + 1, by omega, by go_num, HK.out⟩
        case measure => simp [intOf]; omega
    · obtain rfl : k = n := by omega
      obtain ⟨b1, b2, b3⟩ := HB.out
      have hmx := fun (W : World) (h : Blk W M 66 (iArr .i64 256 (mostF z k))) => sh_slices_Max_int M 0 256 256 ((List.range 256).map (mostF z k)) W (by omega) (by simp) (by omega) (fun j hj => by
        rw [Nat.zero_add, h.cell j]
        have hj2 : j < 256 := by simpa using hj
        rw [iArr_at .i64 256 _ j hj2]
        simp [List.getD, hj2])
      rw [HM.out] at hmx
      have HMX := Lib.hid hmx
      have HB2 := Lib.hid b2
      have HB1 := Lib.hid b1
      have hbd := HBD.out
      obtain ⟨q, hq⟩ : ∃ q, bigM z k = q := ⟨_, rfl⟩
      have HQ := Lib.hid hq
      rw [hq] at HMX hbd
      obtain ⟨q0, q1⟩ := hbd
      clear b1 b2 b3 hmx hq
      go_wp2_with fail
      refine (HMX.out _ HB1.out).mono ?_
      rintro e w2 ⟨rfl, rfl⟩
      go_wp2_with fail
      go_ret
      refine ⟨?_, HB2.out⟩
      rw [HQ.out]
      rfl
end Go.Proofs.YtmbbcfdeielopaaDoorRRRR
namespace Go.Proofs.YtmbbcfdeielopaaDoorRRRR
open Go.RowKit
set_option linter.unusedVariables false
set_option linter.unusedSimpArgs false
set_option maxRecDepth 100000
set_option maxHeartbeats 8000000
/-- A row of the call's own that holds the kinds of letters. -/
def OwnK (w : World) (v : Value) (l : List UInt8) : Prop := ∃ A cap, v = .slice A l.length cap ∧ IRow w .u8 A l.length (fun i => (kdL l).getD i 0)
theorem kdL_len (l : List UInt8) : (kdL l).length = l.length := by simp [kdL]
theorem ownK_of {w : World} {base : Nat} {v : Value} {l : List UInt8} (h : w.ownsRow base 5 1 v l.length (kdV l)) (hok : ∀ c ∈ l, okL c = true) : OwnK w v l := by
  have := row_ints (xs := kdL l) (by rw [kdL_len]; exact h) (kdL_bd hok)
  rw [kdL_len] at this
  exact this
theorem OwnK.keep {w w' : World} {v : Value} {l : List UInt8} (h : OwnK w v l) (hb : Below w.heap.size w w') : OwnK w' v l := by
  obtain ⟨A, cap, h1, h2⟩ := h
  exact ⟨A, cap, h1, h2.keep hb⟩
theorem chr_knd {c : UInt8} (h : okL c = true) : chrT (knd c : Int) = (c.toNat : Int) := by
  rcases okL_mem h with rfl | rfl | rfl | rfl | rfl | rfl | rfl | rfl <;> decide
theorem txt_knd {l : List UInt8} (h : ∀ c ∈ l, okL c = true) : strOfNums (txtN (fun i => (kdL l).getD i 0) l.length) = mkS l := by
  unfold strOfNums mkS txtN
  congr 2
  apply List.ext_getElem
  · simp
  · intro i h1 h2
    have hi : i < l.length := h2
    have hc : okL l[i] = true := h _ (List.getElem_mem hi)
    have he : (kdL l).getD i 0 = (knd l[i] : Int) := by simp [kdL, List.getD, hi]
    simp only [List.map_map, List.getElem_map, List.getElem_range, Function.comp, he, chr_knd hc]
    simp
theorem ttext_own {w : World} {v : Value} {l : List UInt8} (h : OwnK w v l) (hok : ∀ c ∈ l, okL c = true) (hl : l.length ≤ 1000000) : Calls Tryd.prog 15 #[v] w fun e w' => e = .returned (.string (mkS l)) ∧ Below w.heap.size w w' := by
  obtain ⟨A, cap, rfl, R⟩ := h
  have := ttext_any A l.length cap _ hl w R
  rw [txt_knd hok] at this
  exact this
def LK (w : World) (l : List UInt8) (e : Ending) (w' : World) : Prop := ∃ v, e = .returned v ∧ OwnK w' v l ∧ Below w.heap.size w w'
theorem q29_a5 (w : World) : Calls Tryd.prog 7 #[.int .u8 165, .agg #[.bool false, .bool false, .bool false, .int .i64 0]] w (LK w [70, 79, 68, 76]) :=
  (tlist_any 165 (by decide) false false false 0 w).mono fun e w' h => by
    obtain ⟨v, rfl, own, hb⟩ := h
    rw [show tmL 165 false false false 0 = [70, 79, 68, 76] by decide +kernel] at own
    exact ⟨v, rfl, ownK_of own (by decide), hb⟩
theorem q29_69 (w : World) : Calls Tryd.prog 7 #[.int .u8 105, .agg #[.bool true, .bool true, .bool false, .int .i64 0]] w (LK w [70, 79, 76, 68, 83, 68]) :=
  (tlist_any 105 (by decide) true true false 0 w).mono fun e w' h => by
    obtain ⟨v, rfl, own, hb⟩ := h
    rw [show tmL 105 true true false 0 = [70, 79, 76, 68, 83, 68] by decide +kernel] at own
    exact ⟨v, rfl, ownK_of own (by decide), hb⟩
theorem q29_nmi (w : World) : Calls Tryd.prog 13 #[.int .u8 2] w (LK w [68, 68, 80, 80, 80, 86, 86, 68]) :=
  (tentry_any 2 w).mono fun e w' h => by
    obtain ⟨v, rfl, own, hb⟩ := h
    exact ⟨v, rfl, ownK_of own (by decide), hb⟩
theorem q29_ea (w : World) : Calls Tryd.prog 9 #[.int .u8 234, .agg #[.bool false, .bool false, .bool false, .int .i64 0]] w fun e w' => e = .returned (.int .i64 2) ∧ Below w.heap.size w w' :=
  asV (tcount_any 234 (by decide) false false false 0 w) (by rw [show (tmL 234 false false false 0).length = 2 by decide +kernel]; rfl)
theorem q29_nil (w : World) : Calls Tryd.prog 18 #[.slice none 0 0] w fun e w' => e = .returned (.int .i64 8) ∧ Below w.heap.size w w' :=
  asV (tbehind_any none 0 0 (fun _ => 0) (by omega) w (fun i hi => absurd hi (by omega))) (by rfl)
theorem q29_nine {w : World} {g : Nat} (h : Blk w g 5 #[.int .u8 9]) : Calls Tryd.prog 15 #[.slice (some ⟨g, 0, none⟩) 1 1] w fun e w' => e = .returned (.string ⟨#[63]⟩) ∧ Below w.heap.size w w' :=
  asV (ttext_any (some ⟨g, 0, none⟩) 1 1 (fun _ => 9) (by omega) w (fun i hi => by
    obtain rfl : i = 0 := by omega
    exact ⟨_, rfl, h.lt, h.cell 0, by decide⟩)) (by kernel_rfl)
theorem live29_any (w : World) : Calls Tryd.prog 6 #[] w fun e w' => e = .returned (.bool true) ∧ Below w.heap.size w w' := by
  go_enter Tryd.func6, Tryd.ntmps6
  go_wp2_with fail
  refine (q29_a5 _).mono ?_
  rintro e w1 ⟨v, rfl, ho, hb⟩
  have HB1 := Lib.hid hb
  have HO := Lib.hid ho
  clear hb ho
  go_wp2_with fail
  refine (ttext_own HO.out (by decide) (by decide)).mono ?_
  rintro e w2 ⟨rfl, hb⟩
  have HB2 := Lib.hid (HB1.out.trans (hb.mono HB1.out.size))
  clear hb HB1 HO
  rw [show mkS [70, 79, 68, 76] = ⟨#[70, 79, 68, 76]⟩ from rfl]
  go_wp2_with fail
  refine (q29_69 _).mono ?_
  rintro e w3 ⟨v, rfl, ho, hb⟩
  have HB3 := Lib.hid (HB2.out.trans (hb.mono HB2.out.size))
  have HO := Lib.hid ho
  clear hb ho HB2
  go_wp2_with fail
  refine (ttext_own HO.out (by decide) (by decide)).mono ?_
  rintro e w4 ⟨rfl, hb⟩
  have HB4 := Lib.hid (HB3.out.trans (hb.mono HB3.out.size))
  clear hb HB3 HO
  rw [show mkS [70, 79, 76, 68, 83, 68] = ⟨#[70, 79, 76, 68, 83, 68]⟩ from rfl]
  go_wp2_with fail
  refine (q29_nmi _).mono ?_
  rintro e w5 ⟨v, rfl, ho, hb⟩
  have HB5 := Lib.hid (HB4.out.trans (hb.mono HB4.out.size))
  have HO := Lib.hid ho
  clear hb ho HB4
  go_wp2_with fail
  refine (ttext_own HO.out (by decide) (by decide)).mono ?_
  rintro e w6 ⟨rfl, hb⟩
  have HB6 := Lib.hid (HB5.out.trans (hb.mono HB5.out.size))
  clear hb HB5 HO
  rw [show mkS [68, 68, 80, 80, 80, 86, 86, 68] = ⟨#[68, 68, 80, 80, 80, 86, 86, 68]⟩ from rfl]
  go_wp2_with fail
  refine (tlongest_any _).mono ?_
  rintro e w' ⟨rfl, rfl⟩
  go_wp2_with fail
  refine (q29_ea _).mono ?_
  rintro e w7 ⟨rfl, hb⟩
  have HB7 := Lib.hid (HB6.out.trans (hb.mono HB6.out.size))
  clear hb HB6
  go_wp2_with fail
  refine (twrites_any 5 _).mono ?_
  rintro e w' ⟨rfl, rfl⟩
  rw [show ((5 : Int) == 4 || (5 : Int) == 5) = true from rfl]
  go_wp2_with fail
  refine (q29_nil _).mono ?_
  rintro e w8 ⟨rfl, hb⟩
  have HB8 := Lib.hid (HB7.out.trans (hb.mono HB7.out.size))
  clear hb HB7
  go_wp2_with fail
  refine (q29_nine (Blk.new _ _ _)).mono ?_
  rintro e w9 ⟨rfl, hb⟩
  have z8 := HB8.out.size
  have HB9 := Lib.hid ((HB8.out.alloc z8 _).trans (hb.mono (by simp; omega)))
  clear hb HB8
  go_wp2_with fail
  go_ret
  exact ⟨rfl, HB9.out⟩
end Go.Proofs.YtmbbcfdeielopaaDoorRRRR
