/-
  Texts of these proofs, one behind the other: G9, Mix8.
-/
import Derived.Test.YtaamfcbpelbboaaDoorKM05
import Derived.Test.YtaamfcbpelbboaaDoorKM23
namespace Go.Proofs.YtaamfcbpelbboaaDoor
open Go.RowKit
set_option linter.unusedVariables false
theorem more_new {P : Program} {t e ty : TypeId} {size bytes : Nat} {z : Value} {w : World} {base n m c g : Nat} {v : Value} {xs : List Value} (ht : P.underlying t = some (.slice e))
    (hinfo : (P.info? e).map (fun i => (i.zero, i.size, i.bytes)) = some (some z, size, bytes)) (hzs : z.cells.size = size) (hsz : 0 < size)
    (hown : w.ownsRow base e size v n xs) (cells : Array Value) (hlen : cells.size = m * size) (h1 : ∀ u ∈ cells.toList, u.oneCell' = true) (hg : g = w.heap.size)
    (hm : n + m ≤ 1099511627776) (hby : (n + m) * bytes ≤ 140737488355328) (hbase : base ≤ w.heap.size) :
    ∃ v' w', (Builtin.append_ #[t, t] ty #[v, .slice (some ⟨g, 0, none⟩) m c]).run P (w.alloc (.cells cells e)) = .ok v' w' ∧ w'.ownsRow base e size v' (n + m) (xs ++ cells.toList) ∧ (w.alloc (.cells cells e)).grownBy w' v.ownBlock := by
  subst hg
  obtain ⟨i, hi, hzz⟩ := Option.map_eq_some_iff.1 hinfo
  simp only [Prod.mk.injEq] at hzz
  obtain ⟨hz, hs, hb⟩ := hzz
  obtain ⟨v', w', h1', h2, h3, _, _⟩ := run_append_own_at (P := P) (w.alloc (.cells cells e)) base t ty e i z size bytes ht hi hz hs hb hzs hsz v n xs (hown.alloc _) ⟨w.heap.size, 0, none⟩ m c cells.toList (by simpa using hlen)
    (fun j u hu => by
      rw [add_zero_block, cell_of_row _ _ j _ e (0, 0) (heap_alloc_new w _)]
      simpa using hu)
    h1 (by unfold maxLen; omega) hby (by simp; omega)
  exact ⟨v', w', h1', h2, h3⟩
end Go.Proofs.YtaamfcbpelbboaaDoor
namespace Go.Proofs.YtaamfcbpelbboaaDoor
open Go.RowKit
set_option linter.unusedVariables false
set_option linter.unusedSimpArgs false
set_option maxRecDepth 100000
/-- What the two tables hold. -/
def Tabs (w : World) : Prop := TabAt w 0 4 pw ∧ TabAt w 1 4 dp
theorem Tabs.keep {w w' : World} (h : Tabs w) (k : Below w.heap.size w w') : Tabs w' := ⟨h.1.below k, h.2.below k⟩
def lvS : Sg := (((Sg.new.wr 1 255).wr 4 223).wr 5 240).wr 6 31
theorem lv_left : ofL lvS.vc (lvS.lo / 16) = 126976 := by decide +kernel
theorem lv_right : ofR lvS.vc (lvS.lo % 16) = 682 := by decide +kernel
theorem lv_one : Vc.left ⟨31, 31, 15, 15⟩ 15 = 126976 ∧ Vc.right ⟨31, 31, 15, 15⟩ 15 = 126976 := by decide +kernel
theorem lv_pow : pwr 5 = 1722 ∧ pwr 30 = 22 := by decide +kernel
theorem lv_mid : midV 6 2 = .tuple #[.int .i64 4, .int .i64 2, .bool true] := by kernel_rfl
theorem power_v {w : World} (h : TabAt w 0 4 pw) (l p : Int) (e : pwr l = p) : Calls Tryd.prog 10 #[.int .i64 l] w fun e w' => e = .returned (.int .i64 p) ∧ w = w' := e ▸ power_any h l
/-- Six channels made since, kept by what only makes memory. -/
def PI (W : World) (g : Nat) (ns : Nat → Nat) (s : Sg) (w : World) : Prop := PG w g ns s ∧ Below W.heap.size W w ∧ W.heap.size ≤ g ∧ ∀ i, i < 6 → W.heap.size ≤ ns i
theorem PI.below {W w w' : World} {g : Nat} {ns : Nat → Nat} {s : Sg} (h : PI W g ns s w) (b : Below w.heap.size w w') : PI W g ns s w' := ⟨h.1.below b, Below.trans h.2.1 (b.mono h.2.1.size), h.2.2⟩
theorem PI.wrote {W w w' : World} {g : Nat} {ns : Nat → Nat} {s t : Sg} (h : PI W g ns s w) (p : PG w' g ns t) (k : Kp (pgL g ns) w w') : PI W g ns t w' :=
  ⟨p, k.onto h.2.1 h.2.1.size (fun x hx => by
    rcases pgL_all g ns x hx with e | ⟨i, hi, e⟩
    · rw [e]; exact h.2.2.1
    · rw [e]; exact h.2.2.2 i hi), h.2.2⟩
set_option maxHeartbeats 4000000 in
theorem liveM_any {w : World} (hT : Tabs w) : Calls Tryd.prog 9 #[] w fun e w' => e = .returned (.bool true) ∧ Below w.heap.size w w' := by
  have HT := Lib.hid hT
  clear hT
  go_enter Tryd.func9, Tryd.ntmps9
  go_wp2_with fail
  refine (one_any HT.out.1 ⟨31, 31, 15, 15⟩ (by unfold Vc.ok; decide) 15 15 (by omega) (by omega) (by omega) (by omega)).mono ?_
  rw [lv_one.1, lv_one.2]
  rintro e w1 ⟨rfl, b1⟩
  have HB1 := Lib.hid b1
  clear b1
  go_wp2_with fail
  refine (middle_any 6 2 _).mono ?_
  rw [lv_mid]
  rintro e w' ⟨rfl, rfl⟩
  go_wp2_with fail
  refine (pnew_any _).mono ?_
  rintro e w2 ⟨g, ns, rfl, hg, hn, hP, b2⟩
  have s1 := HB1.out.size
  have HI2 : Hid (PI w g ns Sg.new w2) := Lib.hid ⟨hP, Below.trans HB1.out (b2.mono s1), by omega, fun i hi => by have := hn i hi; omega⟩
  clear b2 hP hg hn s1
  go_wp2_with fail
  refine (pwrite_any HI2.out.1 1 (by omega) 255 (by omega) (by omega)).mono ?_
  rintro e w3 ⟨rfl, p3, k3⟩
  have HI3 := Lib.hid (HI2.out.wrote p3 k3)
  clear p3 k3 HI2
  go_wp2_with fail
  refine (pwrite_any HI3.out.1 4 (by omega) 223 (by omega) (by omega)).mono ?_
  rintro e w4 ⟨rfl, p4, k4⟩
  have HI4 := Lib.hid (HI3.out.wrote p4 k4)
  clear p4 k4 HI3
  go_wp2_with fail
  refine (pwrite_any HI4.out.1 5 (by omega) 240 (by omega) (by omega)).mono ?_
  rintro e w5 ⟨rfl, p5, k5⟩
  have HI5 := Lib.hid (HI4.out.wrote p5 k5)
  clear p5 k5 HI4
  go_wp2_with fail
  refine (pwrite_any HI5.out.1 6 (by omega) 31 (by omega) (by omega)).mono ?_
  rintro e w6 ⟨rfl, p6, k6⟩
  have HI6 : Hid (PI w g ns lvS w6) := Lib.hid (HI5.out.wrote p6 k6)
  clear p6 k6 HI5
  go_wp2_with fail
  refine (of_any (HT.out.keep HI6.out.2.1).1 (HT.out.keep HI6.out.2.1).2 HI6.out.1).mono ?_
  rw [lv_left, lv_right]
  rintro e w7 ⟨rfl, b7⟩
  have HB7 := Lib.hid (Below.trans HI6.out.2.1 (b7.mono HI6.out.2.1.size))
  clear b7 HI6
  go_wp2_with fail
  refine (of_nil (HT.out.keep HB7.out).1).mono ?_
  rintro e w8 ⟨rfl, b8⟩
  have HB8 := Lib.hid (Below.trans HB7.out (b8.mono HB7.out.size))
  clear b8 HB7
  go_wp2_with fail
  refine (power_v (HT.out.keep HB8.out).1 5 _ lv_pow.1).mono ?_
  rintro e w' ⟨rfl, rfl⟩
  go_wp2_with fail
  refine (power_v (HT.out.keep HB8.out).1 30 _ lv_pow.2).mono ?_
  rintro e w' ⟨rfl, rfl⟩
  go_wp2_with fail
  go_ret
  exact ⟨rfl, HB8.out⟩
/-- Voices that came in. -/
theorem vr_of {w : World} {A : Option Addr} {n : Nat} {q : Nat → Nat → Value} (R : FRow w 4 A n q) (F : ∀ i, i < n → ∀ (j : Nat) (k : FK), [FK.int .u8, .int .u8, .int .u8, .int .u8][j]? = some k → k.ok (q i j)) : ∃ v, VR w A n v := by
  refine ⟨fun i => ⟨intOf (q i 0), intOf (q i 1), intOf (q i 2), intOf (q i 3)⟩, R.congr fun i hi j hj => ?_, fun i hi => ?_⟩
  · have : j = 0 ∨ j = 1 ∨ j = 2 ∨ j = 3 := by omega
    rcases this with rfl | rfl | rfl | rfl
    · obtain ⟨z, e, _⟩ := F i hi 0 (.int .u8) rfl; rw [e]; simp [Vc.fld, e, intOf]
    · obtain ⟨z, e, _⟩ := F i hi 1 (.int .u8) rfl; rw [e]; simp [Vc.fld, e, intOf]
    · obtain ⟨z, e, _⟩ := F i hi 2 (.int .u8) rfl; rw [e]; simp [Vc.fld, e, intOf]
    · obtain ⟨z, e, _⟩ := F i hi 3 (.int .u8) rfl; rw [e]; simp [Vc.fld, e, intOf]
  · obtain ⟨z0, e0, w0⟩ := F i hi 0 (.int .u8) rfl
    obtain ⟨z1, e1, w1⟩ := F i hi 1 (.int .u8) rfl
    obtain ⟨z2, e2, w2⟩ := F i hi 2 (.int .u8) rfl
    obtain ⟨z3, e3, w3⟩ := F i hi 3 (.int .u8) rfl
    simp only [Vc.ok, e0, e1, e2, e3]
    exact ⟨bounds_u8 w0, bounds_u8 w1, bounds_u8 w2, bounds_u8 w3⟩
/-- One of them alone. -/
theorem VR.sub {w : World} {ad : Addr} {n : Nat} {v : Nat → Vc} (h : VR w (some ad) n v) (i : Nat) (hi : i < n) : VR w (some (ad.add (i * 4))) 1 fun _ => v i :=
  ⟨fun j hj => by
    obtain rfl : j = 0 := by omega
    obtain ⟨ad2, e, hl, hc⟩ := h.1 i hi
    cases e
    refine ⟨_, rfl, by rw [block_of_add]; exact hl, fun q hq => ?_⟩
    rw [add_of_add, Nat.zero_mul, Nat.zero_add]
    exact hc q hq, fun _ _ => h.2 i hi⟩
theorem vc_info : (Tryd.prog.info? 32).map (fun i => (i.zero, i.size, i.bytes)) = some (some (.agg #[.int .u8 0, .int .u8 0, .int .u8 0, .int .u8 0]), 4, 4) := by kernel_rfl
theorem vsL_len (v : Nat → Vc) (n : Nat) : (vsL v n).length = n * 4 := by simp [vsL, cellsOf_len]
theorem vsL_at (v : Nat → Vc) (n q : Nat) (h : q < n * 4) : (vsL v n)[q]? = some (.int .u8 ((v (q / 4)).fld (q % 4))) := cellsOf_at 4 _ n q h
theorem vsL_snoc (v : Nat → Vc) (n : Nat) (x : Vc) (h : v n = x) : vsL v n ++ [.int .u8 x.lv, .int .u8 x.vo, .int .u8 x.lf, .int .u8 x.rt] = vsL v (n + 1) := by
  apply List.ext_getElem?
  intro q
  by_cases h1 : q < n * 4
  · rw [List.getElem?_append_left (by rw [vsL_len]; exact h1), vsL_at v n q h1, vsL_at v (n + 1) q (by omega)]
  · rw [List.getElem?_append_right (by rw [vsL_len]; omega), vsL_len]
    by_cases h2 : q < (n + 1) * 4
    · rw [vsL_at v (n + 1) q h2]
      have e1 : q / 4 = n := by omega
      have e2 : q % 4 = q - n * 4 := by omega
      rw [e1, e2, h]
      have : q - n * 4 = 0 ∨ q - n * 4 = 1 ∨ q - n * 4 = 2 ∨ q - n * 4 = 3 := by omega
      rcases this with e | e | e | e <;> rw [e] <;> rfl
    · rw [List.getElem?_eq_none (by simp; omega), List.getElem?_eq_none (by rw [vsL_len]; omega)]
/-- A row of one's own, read as voices. -/
theorem own_vr {w : World} {base n : Nat} {o : Value} {v : Nat → Vc} (h : w.ownsRow base 32 4 o n (vsL v n)) (ok : ∀ i, i < n → (v i).ok) : ∃ A c, o = .slice A n c ∧ n ≤ c ∧ VR w A n v := by
  obtain ⟨A, c, e, h1, _, h2, _, _⟩ := own_frow (by decide) h
  exact ⟨A, c, e, h1, h2, ok⟩
theorem back_left (v : Nat → Vc) (m : Int) (n : Nat) : lefts (fun i => v (n - 1 - i)) m n = lefts v m n := sum_back (fun i => (v i).left m) n
theorem back_right (v : Nat → Vc) (m : Int) (n : Nat) : rights (fun i => v (n - 1 - i)) m n = rights v m n := sum_back (fun i => (v i).right m) n
end Go.Proofs.YtaamfcbpelbboaaDoor
