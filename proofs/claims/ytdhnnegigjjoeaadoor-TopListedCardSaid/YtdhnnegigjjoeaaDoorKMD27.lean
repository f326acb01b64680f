/-
  Texts of these proofs, one behind the other: Mod7, Mod8.
-/
import Derived.Test.YtdhnnegigjjoeaaDoorKMD25
import Derived.Test.YtdhnnegigjjoeaaDoorKMD22
import Derived.Test.YtdhnnegigjjoeaaDoorKMD26
import Derived.Deep.QuietTactic
import Derived.BigQuiet
namespace Go.Proofs.YtdhnnegigjjoeaaDoor
open Go.RowKit
set_option linter.unusedVariables false
set_option linter.unusedSimpArgs false
set_option maxRecDepth 100000
/-- Two digits of a byte. -/
def hxU (b : Int) : List UInt8 := (hexL b 2).map fun n => UInt8.ofNat n.toNat
theorem str_hxU (b : Int) : strOfNums (hexL b 2) = mkS (hxU b) := by
  apply Go.WideShapes.bytes_inj
  simp [strOfNums, mkS, hxU]
theorem mkS_cat (a b : List UInt8) : mkS a ++ mkS b = mkS (a ++ b) := by
  apply Go.WideShapes.bytes_inj
  simp [mkS]
/-- The digits of bytes, the lowest byte first. -/
def numU (z : Nat → Int) : Nat → List UInt8
  | 0 => []
  | k + 1 => hxU (z k) ++ numU z k
theorem hxU_len (b : Int) : (hxU b).length = 2 := by simp [hxU, hexL]
theorem numU_len (z : Nat → Int) : ∀ k, (numU z k).length = 2 * k
  | 0 => rfl
  | k + 1 => by simp only [numU, List.length_append, hxU_len, numU_len z k]; omega
theorem mkS_size' (l : List UInt8) : (mkS l).size = l.length := by simp [mkS, ByteArray.size]
theorem IRow.shift {w : World} {k : IntKind} {ad : Addr} {n : Nat} {z : Nat → Int} (R : IRow w k (some ad) n z) (j : Nat) : IRow w k (some (ad.add j)) (n - j) (fun i => z (i + j)) := fun i hi => by
  obtain ⟨a, e, hl, hc, hw⟩ := R (i + j) (by omega)
  cases e
  refine ⟨_, rfl, by rw [block_of_add]; exact hl, ?_, hw⟩
  rw [show (ad.add j).add i = ad.add (i + j) by unfold Addr.add; split <;> split <;> split <;> simp_all <;> omega]
  exact hc
theorem hex2_any (b : Int) (b0 : 0 ≤ b) (b1 : b ≤ 255) (w : World) : Calls Tryd.prog 26 #[.int .u32 b, .int .i64 2] w fun e w' => e = .returned (.string (mkS (hxU b))) ∧ Below w.heap.size w w' := by
  rw [← str_hxU]
  exact hex_2 b w b0 (by omega)
set_option maxHeartbeats 4000000 in
theorem mnum_any (A : Option Addr) (n c : Nat) (z : Nat → Int) (hn : n ≤ 100) (hnc : n ≤ c) (w : World) (R : IRow w .u8 A n z) : Calls Tryd.prog 39 #[.slice A n c] w fun e w' => e = .returned (.string (mkS (36 :: numU z n))) ∧ Below w.heap.size w w' := by
  have HR := Lib.hid R
  clear R
  go_enter Tryd.func39, Tryd.ntmps39
  go_wp2
  go_loopw [3, 8] (fun o i wr => ∃ k : Nat, k ≤ n ∧ i = .int .i64 k ∧ o = .string (mkS (numU z k)) ∧ Below w.heap.size w wr) (fun _ i _ => n - (intOf i).toNat)
  case atStart => exact ⟨0, by omega, rfl, rfl, Below.refl _ _⟩
  case round =>
    obtain ⟨k, hk, rfl, rfl, hB⟩ := hrel
    have HB := Lib.hid hB
    have hz := numU_len z k
    have EN : numU z (k + 1) = hxU (z k) ++ numU z k := rfl
    by_cases hlt : k < n
    · obtain ⟨ad, rfl, hal, hc, hwf⟩ := HR.out k hlt
      have hc2 := (hB.cell (p := ad.add k) (by rw [block_of_add]; exact hal)).trans hc
      obtain ⟨z0, z1⟩ := bounds_u8 hwf
      have hS1 : (mkS (numU z k)).size = 2 * k := by rw [mkS_size']; exact hz
      have hS2 : (mkS (hxU (z k))).size = 2 := by rw [mkS_size', hxU_len]
      have EQ := mkS_cat (hxU (z k)) (numU z k)
      rw [← EN] at EQ
      obtain ⟨T, hT⟩ : ∃ T, mkS (numU z k) = T := ⟨_, rfl⟩
      have hH := fun W => hex2_any (z k) z0 z1 W
      obtain ⟨S, hS⟩ : ∃ S, mkS (hxU (z k)) = S := ⟨_, rfl⟩
      rw [hS] at hH hS2 EQ
      rw [hT] at hS1 EQ ⊢
      have HQ := Lib.hid EQ
      have e0 : IntKind.u32.wrap (z k) = z k := IntWalk.u32_in _ (by omega)
      have k0 : (0 : Int) ≤ k := by omega
      have k1 : (k : Int) < n := by omega
      clear EQ EN hS hT hz hB hwf hc
      go_wp2_with (go_at_call 26; refine (hH _).mono ?_; rintro e w2 ⟨rfl, b2⟩)
      go_roundw
      case rel => exact ⟨k + 1, by omega, by go_num, by rw [← HQ.out], HB.out.trans (b2.mono HB.out.size)⟩
      case measure => simp [intOf]; omega
    · obtain rfl : k = n := by omega
      have k1 : ¬ (k : Int) < k := by omega
      have hS1 : (mkS (numU z k)).size = 2 * k := by rw [mkS_size']; exact hz
      have EQ := mkS_cat [36] (numU z k)
      obtain ⟨T, hT⟩ : ∃ T, mkS (numU z k) = T := ⟨_, rfl⟩
      rw [hT] at hS1 EQ ⊢
      have HQ := Lib.hid EQ
      clear EQ EN hT hz hB
      go_wp2
      go_ret
      exact ⟨by rw [show mkS (36 :: numU z k) = mkS [36] ++ T from HQ.out.symm]; rfl, HB.out⟩
set_option maxHeartbeats 4000000 in
theorem mwithin_any (s : ByteArray) (hs : s.size ≤ 1000) (w : World) : Calls Tryd.prog 55 #[.string s] w fun e w' => e = .returned (.string (⟨#[40]⟩ ++ s ++ ⟨#[41]⟩)) ∧ w = w' := by
  go_enter Tryd.func55, Tryd.ntmps55
  go_wp2
  go_ret
  exact ⟨rfl, rfl⟩
set_option maxHeartbeats 4000000 in
theorem mjoined_any (bk c : Nat) (xs : List ByteArray) (w : World) (hcells : ∀ (j : Nat) x, xs[j]? = some x → w.cell? ⟨bk, 0 + j, none⟩ = some (.string x)) (hbk : bk < w.heap.size) (hN : xs.length ≤ 140737488355328) (hcap : xs.length ≤ c) (hlen : (Lib.join (xs.map (·.data.toList)) [44]).length ≤ 140737488355328) :
    Calls Tryd.prog 54 #[.slice (some ⟨bk, 0, none⟩) xs.length c] w fun e w' => e = .returned (.string ⟨(Lib.join (xs.map (·.data.toList)) [44]).toArray⟩) ∧ Below w.heap.size w w' := by
  have hJ := sh_strings_Join bk 0 c xs ⟨#[44]⟩ w hcells hbk hN hcap hlen
  go_enter Tryd.func54, Tryd.ntmps54
  go_wp2_with (go_at_call 74; refine hJ.mono ?_; rintro e w' ⟨rfl, hb⟩)
  go_ret
  exact ⟨rfl, hb⟩
end Go.Proofs.YtdhnnegigjjoeaaDoor
namespace Go.Proofs.YtdhnnegigjjoeaaDoor
open Go.RowKit
set_option linter.unusedVariables false
set_option linter.unusedSimpArgs false
set_option maxRecDepth 100000
/-- A number of one byte, of two bytes, and of a word. -/
def N1 (a : Int) : List UInt8 := 36 :: hxU a
def N2 (l h : Int) : List UInt8 := 36 :: (hxU h ++ hxU l)
def W2 (t : Int) : List UInt8 := N2 (t % 256) (t / 256)
theorem numU_1 (z : Nat → Int) : 36 :: numU z 1 = N1 (z 0) := by simp [numU, N1]
theorem numU_2 (z : Nat → Int) : 36 :: numU z 2 = N2 (z 0) (z 1) := by simp [numU, N2]
theorem N1_len (a : Int) : (N1 a).length = 3 := by simp [N1, hxU_len]
theorem N2_len (a b : Int) : (N2 a b).length = 5 := by simp [N2, hxU_len]
theorem W2_len (a : Int) : (W2 a).length = 5 := N2_len _ _
theorem W2_word (l h : Int) (l0 : 0 ≤ l) (l1 : l ≤ 255) : W2 (l + 256 * h) = N2 l h := by
  unfold W2
  rw [show (l + 256 * h) % 256 = l by omega, show (l + 256 * h) / 256 = h by omega]
theorem hex4_W2 (n : Int) : hexL n 4 = hexL (n / 256) 2 ++ hexL (n % 256) 2 := by
  simp only [hexL, List.nil_append, List.append_assoc, List.cons_append]
  rw [show n / 16 / 16 / 16 % 16 = n / 256 / 16 % 16 by omega, show n / 16 / 16 % 16 = n / 256 % 16 by omega, show n % 256 / 16 % 16 = n / 16 % 16 by omega, show n % 256 % 16 = n % 16 by omega]
theorem str_W2 (n : Int) : strOfNums (hexL n 4) = mkS (hxU (n / 256) ++ hxU (n % 256)) := by
  rw [hex4_W2]
  apply Go.WideShapes.bytes_inj
  simp [strOfNums, mkS, hxU]
set_option maxHeartbeats 1000000 in
/-- What stands behind a name, letter by letter. -/
def opdU (m : Nat) (z : Nat → Int) (b : Int) : List UInt8 :=
  match m with
  | 1 => 35 :: N1 (z 0)
  | 2 => N1 (z 0)
  | 3 => N1 (z 0) ++ [44, 88]
  | 4 => N1 (z 0) ++ [44, 89]
  | 5 => N2 (z 0) (z 1)
  | 6 => N2 (z 0) (z 1) ++ [44, 88]
  | 7 => N2 (z 0) (z 1) ++ [44, 89]
  | 8 => 40 :: (N1 (z 0) ++ [41])
  | 9 => 40 :: (N1 (z 0) ++ [44, 88, 41])
  | 10 => 40 :: (N1 (z 0) ++ [41, 44, 89])
  | 11 => W2 (tgtP b (z 0))
  | 12 => N1 (z 0) ++ 44 :: W2 (tgtP b (z 1))
  | 13 => 35 :: (N1 (z 0) ++ 44 :: N1 (z 1))
  | 14 => 35 :: (N1 (z 0) ++ 44 :: (N1 (z 1) ++ [44, 88]))
  | 15 => 35 :: (N1 (z 0) ++ 44 :: N2 (z 1) (z 2))
  | 16 => 35 :: (N1 (z 0) ++ 44 :: (N2 (z 1) (z 2) ++ [44, 88]))
  | 17 => 40 :: (N2 (z 0) (z 1) ++ [41])
  | 18 => 40 :: (N2 (z 0) (z 1) ++ [44, 88, 41])
  | 19 => N2 (z 0) (z 1) ++ 44 :: (N2 (z 2) (z 3) ++ 44 :: N2 (z 4) (z 5))
  | _ => []
theorem opdU_len (m : Nat) (z : Nat → Int) (b : Int) : (opdU m z b).length ≤ 17 := by
  unfold opdU
  split <;> simp [N1_len, N2_len, W2_len]
theorem ba_of (a : ByteArray) : a = mkS a.data.toList := by apply Go.WideShapes.bytes_inj; simp [mkS]
theorem mjoin_2 (a b : ByteArray) (ha : a.size ≤ 1000) (hb : b.size ≤ 1000) (bk : Nat) (w : World) (h : Blk w bk 9 #[.string a, .string b]) : Calls Tryd.prog 54 #[.slice (some ⟨bk, 0, none⟩) 2 2] w fun e w' => e = .returned (.string (a ++ ⟨#[44]⟩ ++ b)) ∧ Below w.heap.size w w' := by
  have e1 : (⟨(Lib.join ([a, b].map (·.data.toList)) [44]).toArray⟩ : ByteArray) = a ++ ⟨#[44]⟩ ++ b := by
    apply Go.WideShapes.bytes_inj
    simp [Lib.join]
  have := mjoined_any bk 2 [a, b] w (by
    intro j x hx
    rcases j with _ | _ | j
    · obtain rfl : a = x := by simpa using hx
      exact h.cell 0
    · obtain rfl : b = x := by simpa using hx
      exact h.cell 1
    · simp at hx) h.lt (by simp) (by simp) (by
      have h1 : a.data.size = a.size := rfl
      have h2 : b.data.size = b.size := rfl
      simp [Lib.join]; omega)
  rw [e1] at this
  exact this
theorem mjoin_3 (a b c : ByteArray) (ha : a.size ≤ 1000) (hb : b.size ≤ 1000) (hc : c.size ≤ 1000) (bk : Nat) (w : World) (h : Blk w bk 9 #[.string a, .string b, .string c]) : Calls Tryd.prog 54 #[.slice (some ⟨bk, 0, none⟩) 3 3] w fun e w' => e = .returned (.string (a ++ ⟨#[44]⟩ ++ b ++ ⟨#[44]⟩ ++ c)) ∧ Below w.heap.size w w' := by
  have e1 : (⟨(Lib.join ([a, b, c].map (·.data.toList)) [44]).toArray⟩ : ByteArray) = a ++ ⟨#[44]⟩ ++ b ++ ⟨#[44]⟩ ++ c := by
    apply Go.WideShapes.bytes_inj
    simp [Lib.join]
  have := mjoined_any bk 3 [a, b, c] w (by
    intro j x hx
    rcases j with _ | _ | _ | j
    · obtain rfl : a = x := by simpa using hx
      exact h.cell 0
    · obtain rfl : b = x := by simpa using hx
      exact h.cell 1
    · obtain rfl : c = x := by simpa using hx
      exact h.cell 2
    · simp at hx) h.lt (by simp) (by simp) (by
      have h1 : a.data.size = a.size := rfl
      have h2 : b.data.size = b.size := rfl
      have h3 : c.data.size = c.size := rfl
      simp [Lib.join]; omega)
  rw [e1] at this
  exact this
theorem wf_u8 (x : Int) (x0 : 0 ≤ x) (x1 : x ≤ 255) : (Lit.int .u8 x).wf = true := by simp [Lit.wf, IntKind.min, IntKind.max, IntKind.signed, IntKind.bits]; omega
/-- The row of both bytes that a function's own array holds. -/
theorem IRow.two {w : World} {g : Nat} {t : TypeId} {x y : Int} (h : Blk w g t #[.int .u8 x, .int .u8 y]) (x0 : 0 ≤ x) (x1 : x ≤ 255) (y0 : 0 ≤ y) (y1 : y ≤ 255) : IRow w .u8 (some ⟨g, 0, none⟩) 2 (fun i => if i = 0 then x else y) := fun i hi => by
  have hi : i = 0 ∨ i = 1 := by omega
  rcases hi with rfl | rfl
  · exact ⟨_, rfl, h.lt, h.cell 0, by first | exact wf_u8 _ x0 x1 | exact wf_u8 _ y0 y1⟩
  · exact ⟨_, rfl, h.lt, h.cell 1, by first | exact wf_u8 _ x0 x1 | exact wf_u8 _ y0 y1⟩
theorem IRow.one {w : World} {g : Nat} {t : TypeId} {x : Int} (h : Blk w g t #[.int .u8 x]) (x0 : 0 ≤ x) (x1 : x ≤ 255) : IRow w .u8 (some ⟨g, 0, none⟩) 1 (fun _ => x) := fun i hi => by
  obtain rfl : i = 0 := by omega
  exact ⟨_, rfl, h.lt, h.cell 0, by first | exact wf_u8 _ x0 x1 | exact wf_u8 _ y0 y1⟩
theorem mjoinN_2 (a b : ByteArray) (ha : a.size ≤ 1000) (hb : b.size ≤ 1000) (W : World) : Calls Tryd.prog 54 #[.slice (some ⟨W.heap.size, 0, none⟩) 2 2] (W.alloc (.cells #[.string a, .string b] 9)) fun e w' => e = .returned (.string (a ++ ⟨#[44]⟩ ++ b)) ∧ Below W.heap.size W w' :=
  (mjoin_2 a b ha hb W.heap.size _ (Blk.new W _ _)).mono fun e w' ⟨h, hb⟩ => ⟨h, ((Below.refl _ W).alloc (Nat.le_refl _) _).trans (hb.mono (by simp))⟩
theorem mjoinN_3 (a b c : ByteArray) (ha : a.size ≤ 1000) (hb : b.size ≤ 1000) (hc : c.size ≤ 1000) (W : World) : Calls Tryd.prog 54 #[.slice (some ⟨W.heap.size, 0, none⟩) 3 3] (W.alloc (.cells #[.string a, .string b, .string c] 9)) fun e w' => e = .returned (.string (a ++ ⟨#[44]⟩ ++ b ++ ⟨#[44]⟩ ++ c)) ∧ Below W.heap.size W w' :=
  (mjoin_3 a b c ha hb hc W.heap.size _ (Blk.new W _ _)).mono fun e w' ⟨h, hb⟩ => ⟨h, ((Below.refl _ W).alloc (Nat.le_refl _) _).trans (hb.mono (by simp))⟩
theorem mnum_1 (A : Option Addr) (c : Nat) (z : Nat → Int) (hc : 1 ≤ c) (w : World) (R : IRow w .u8 A 1 z) : Calls Tryd.prog 39 #[.slice A 1 c] w fun e w' => e = .returned (.string (mkS (N1 (z 0)))) ∧ Below w.heap.size w w' := by
  rw [← numU_1]; exact mnum_any A 1 c z (by omega) hc w R
theorem mnum_2 (A : Option Addr) (c : Nat) (z : Nat → Int) (hc : 2 ≤ c) (w : World) (R : IRow w .u8 A 2 z) : Calls Tryd.prog 39 #[.slice A 2 c] w fun e w' => e = .returned (.string (mkS (N2 (z 0) (z 1)))) ∧ Below w.heap.size w w' := by
  rw [← numU_2]; exact mnum_any A 2 c z (by omega) hc w R
theorem mnumN_2 (x y : Int) (x0 : 0 ≤ x) (x1 : x ≤ 255) (y0 : 0 ≤ y) (y1 : y ≤ 255) (W : World) : Calls Tryd.prog 39 #[.slice (some ⟨W.heap.size, 0, none⟩) 2 2] (W.alloc (.cells #[.int .u8 x, .int .u8 y] 5)) fun e w' => e = .returned (.string (mkS (N2 x y))) ∧ Below W.heap.size W w' :=
  (mnum_2 _ 2 _ (by decide) _ (IRow.two (Blk.new W _ _) x0 x1 y0 y1)).mono fun e w' ⟨h, hb⟩ => ⟨h, ((Below.refl _ W).alloc (Nat.le_refl _) _).trans (hb.mono (by simp))⟩
theorem mnumN_1 (x : Int) (x0 : 0 ≤ x) (x1 : x ≤ 255) (W : World) : Calls Tryd.prog 39 #[.slice (some ⟨W.heap.size, 0, none⟩) 1 1] (W.alloc (.cells #[.int .u8 x] 5)) fun e w' => e = .returned (.string (mkS (N1 x))) ∧ Below W.heap.size W w' :=
  (mnum_1 _ 1 _ (by decide) _ (IRow.one (Blk.new W _ _) x0 x1)).mono fun e w' ⟨h, hb⟩ => ⟨h, ((Below.refl _ W).alloc (Nat.le_refl _) _).trans (hb.mono (by simp))⟩
end Go.Proofs.YtdhnnegigjjoeaaDoor
