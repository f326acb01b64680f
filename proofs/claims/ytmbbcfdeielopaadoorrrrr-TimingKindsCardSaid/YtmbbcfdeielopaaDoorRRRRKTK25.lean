/-
  Texts of these proofs, one behind the other: Tm5.
-/
import Derived.Test.YtmbbcfdeielopaaDoorRRRRKTK14
import Derived.Test.YtmbbcfdeielopaaDoorRRRRKTK22
import Derived.Test.YtmbbcfdeielopaaDoorRRRRKTK23
import Derived.Test.YtmbbcfdeielopaaDoorRRRRKTK07
import Derived.Test.YtmbbcfdeielopaaDoorRRRRKTK24
import Derived.Laws.IdiomStrings
namespace Go.Proofs.YtmbbcfdeielopaaDoorRRRR
open Go.RowKit
set_option linter.unusedVariables false
set_option linter.unusedSimpArgs false
set_option maxRecDepth 100000
/-- A letter of the eight. -/
def okL (c : UInt8) : Bool := [70, 79, 68, 76, 83, 80, 85, 86].contains c
theorem okL_mem {c : UInt8} (h : okL c = true) : c = 70 ∨ c = 79 ∨ c = 68 ∨ c = 76 ∨ c = 83 ∨ c = 80 ∨ c = 85 ∨ c = 86 := by
  unfold okL at h
  simpa using h
theorem idx_knd {c : UInt8} (h : okL c = true) : Lib.indexByte [70, 79, 68, 76, 83, 80, 85, 86] c = (knd c : Int) ∧ knd c < 8 := by
  rcases okL_mem h with rfl | rfl | rfl | rfl | rfl | rfl | rfl | rfl <;> exact ⟨by decide, by decide⟩
/-- The kinds of letters. -/
def kdL (l : List UInt8) : List Int := l.map fun c => (knd c : Int)
theorem kdL_bd {l : List UInt8} (h : ∀ c ∈ l, okL c = true) : ∀ x ∈ kdL l, 0 ≤ x ∧ x ≤ 255 := by
  intro x hx
  simp only [kdL, List.mem_map] at hx
  obtain ⟨c, hc, rfl⟩ := hx
  have := (idx_knd (h c hc)).2
  omega
def kdV (l : List UInt8) : List Value := (kdL l).map (Value.int .u8)
theorem kdV_len (l : List UInt8) : (kdV l).length = l.length := by simp [kdV, kdL]
theorem kdV_app (a b : List UInt8) : kdV (a ++ b) = kdV a ++ kdV b := by simp [kdV, kdL]
theorem u8_info : (Tryd.prog.info? 5).map (fun i => (i.zero, i.size, i.bytes)) = some (some (.int .u8 0), 1, 1) := by kernel_rfl
/-- One byte more behind a row of the call's own. -/
theorem more_u8 {ty : TypeId} {w : World} {base n : Nat} {v : Value} {xs : List Value} (hown : w.ownsRow base 5 1 v n xs) (x : Int) (hn : n ≤ 1000000000) (hb : base ≤ w.heap.size) :
    ∃ v' w', (Builtin.append_ #[25, 25] ty #[v, .slice (some ⟨w.heap.size, 0, none⟩) 1 1]).run Tryd.prog (w.alloc (.cells #[.int .u8 x] 5)) = .ok v' w' ∧ w'.ownsRow base 5 1 v' (n + 1) (xs ++ [.int .u8 x]) ∧
      (w.alloc (.cells #[.int .u8 x] 5)).grownBy w' v.ownBlock ∧ (v'.ownBlock = v.ownBlock ∨ v'.ownBlock = some (w.heap.size + 1)) := by
  obtain ⟨i, hi, hzz⟩ := Option.map_eq_some_iff.1 u8_info
  simp only [Prod.mk.injEq] at hzz
  obtain ⟨hz, hs, hbb⟩ := hzz
  obtain ⟨v', w', h1', h2, h3, _, h5⟩ := run_append_own_at (P := Tryd.prog) (w.alloc (.cells #[.int .u8 x] 5)) base 25 ty 5 i _ 1 1 Tryd.underlying25 hi hz hs hbb rfl (by decide) v n xs (hown.alloc _) ⟨w.heap.size, 0, none⟩ 1 1 [.int .u8 x] rfl
    (fun j u hu => by
      rw [add_zero_block, cell_of_row _ _ j _ 5 (0, 0) (heap_alloc_new w _)]
      simpa using hu)
    (fun u hu => by simp only [List.mem_cons, List.not_mem_nil, or_false] at hu; subst hu; rfl) (by unfold maxLen; omega) (by omega) (by simp; omega)
  refine ⟨v', w', h1', h2, h3, ?_⟩
  rcases h5 with h5 | h5
  · exact .inl h5
  · right; rw [h5]; simp
/-- What stands in the inner loop. -/
structure KdI (w0 wr : World) (g G : Nat) (xs : List ByteArray) (s : ByteArray) (pre : List UInt8) (k : Nat) (v : Value) : Prop where
  strs : Blk wr g 9 (xs.map Value.string).toArray
  bytes : ∀ j (h : j < s.size), wr.cell? ⟨G, j, none⟩ = some (.int .u8 (s.data[j].toNat : Int))
  glt : G < wr.heap.size
  apart : v.ownBlock ≠ some G
  own : wr.ownsRow w0.heap.size 5 1 v (pre.length + k) (kdV (pre ++ s.data.toList.take k))
  below : Below w0.heap.size w0 wr
theorem KdI.start {w0 wr : World} {g : Nat} {xs : List ByteArray} {s : ByteArray} {pre : List UInt8} {v : Value} (hs : Blk wr g 9 (xs.map Value.string).toArray) (ho : wr.ownsRow w0.heap.size 5 1 v pre.length (kdV pre)) (hb : Below w0.heap.size w0 wr)
    {w1 : World} {cap : Nat} {fr : Nat × Nat} (hw : w1 = wr.drew.alloc (.cells (bytesRow s cap) 5 fr)) : KdI w0 w1 g wr.heap.size xs s pre 0 v := by
  subst hw
  have hB : Below wr.heap.size wr (wr.drew.alloc (.cells (bytesRow s cap) 5 fr)) := ((Below.refl _ wr).drew).alloc (Nat.le_refl _) _
  refine ⟨hs.below hB hs.lt, fun j h => ?_, by simp, ?_, by simpa using own_belowG ho hB, hb.trans (hB.mono hb.size)⟩
  · have hrow : (wr.drew.alloc (.cells (bytesRow s cap) 5 fr)).heap[wr.heap.size]? = some (.cells (bytesRow s cap) 5 fr) := by
      show (wr.heap.push (.cells (bytesRow s cap) 5 fr))[wr.heap.size]? = _
      simp
    rw [cell_of_row _ _ j _ _ _ hrow]
    exact bytesRow_at s cap j h
  · intro e
    have := (ho.lt _ e).2
    omega
theorem KdI.round {w0 wr : World} {g G : Nat} {xs : List ByteArray} {s : ByteArray} {pre : List UInt8} {k : Nat} {v : Value} (h : KdI w0 wr g G xs s pre k v) (hk : k < s.size) (hn : pre.length + k ≤ 1000000000) (x : Int) (hx : x = (knd (s.data[k]'hk) : Int)) {ty : TypeId} :
    ∃ v' w', (Builtin.append_ #[25, 25] ty #[v, .slice (some ⟨wr.heap.size, 0, none⟩) 1 1]).run Tryd.prog (wr.alloc (.cells #[.int .u8 x] 5)) = .ok v' w' ∧ KdI w0 w' g G xs s pre (k + 1) v' := by
  obtain ⟨v', w', h1, h2, h3, h4⟩ := more_u8 (ty := ty) h.own x (by omega) h.below.size
  have hg : ∀ j t (cs : Array Value), Blk wr j t cs → t ≠ 5 → some j ≠ v.ownBlock := fun j t cs hb hne => blk_not_row hb hne h.own
  have hkt : kdV (pre ++ s.data.toList.take (k + 1)) = kdV (pre ++ s.data.toList.take k) ++ [.int .u8 x] := by
    rw [List.take_succ_eq_append_getElem (by simpa using hk), ← List.append_assoc, kdV_app (pre ++ _)]
    subst hx
    rfl
  refine ⟨v', w', h1, ⟨(h.strs.alloc _).grown h3 (hg g _ _ h.strs (by decide)), fun j hj => ?_, ?_, ?_, ?_, ?_⟩⟩
  · have hc : (wr.alloc (.cells #[.int .u8 x] 5)).cell? ⟨G, j, none⟩ = some (.int .u8 (s.data[j].toNat : Int)) := by
      rw [World.cell?_alloc_old _ _ _ (Nat.ne_of_lt h.glt)]; exact h.bytes j hj
    exact h3.cell hc (fun e => h.apart e.symm)
  · exact Nat.lt_of_lt_of_le h.glt (Nat.le_trans (by simp) h3.size)
  · rcases h4 with e | e
    · rw [e]; exact h.apart
    · rw [e]; intro e2; have := h.glt; injection e2; omega
  · rw [hkt]; exact h2
  · exact ((h.below.alloc h.below.size _)).grown h3 (by simp; have := h.below.size; omega) (fun j e => (h.own.lt j e).1)
def KdO (w0 wr : World) (g : Nat) (xs : List ByteArray) (j : Nat) (v : Value) : Prop :=
  Blk wr g 9 (xs.map Value.string).toArray ∧ wr.ownsRow w0.heap.size 5 1 v ((xs.take j).map (·.data.toList)).flatten.length (kdV ((xs.take j).map (·.data.toList)).flatten) ∧ Below w0.heap.size w0 wr
set_option maxHeartbeats 8000000 in
theorem tkinds_any (g c : Nat) (xs : List ByteArray) (w : World) (hB : Blk w g 9 (xs.map Value.string).toArray) (hl : xs.length ≤ 100) (hz : (xs.map (·.size)).sum ≤ 1000000) (hok : ∀ c ∈ (xs.map (·.data.toList)).flatten, okL c = true) :
    Calls Tryd.prog 21 #[.slice (some ⟨g, 0, none⟩) xs.length c] w fun e w' => ∃ v, e = .returned v ∧ w'.ownsRow w.heap.size 5 1 v (xs.map (·.data.toList)).flatten.length (kdV (xs.map (·.data.toList)).flatten) ∧ Below w.heap.size w w' := by
  have HOK := Lib.hid hok
  obtain ⟨n, hn⟩ : ∃ n, xs.length = n := ⟨_, rfl⟩
  have HN := Lib.hid hn
  have HBB := Lib.hid hB
  rw [hn] at hl ⊢
  have HZ := Lib.hid hz
  clear hok hn hB hz
  go_enter Tryd.func21, Tryd.ntmps21
  go_wp2
  go_loopw [3, 10] (fun v i wr => ∃ j : Nat, j ≤ n ∧ i = .int .i64 j ∧ KdO w wr g xs j v) (fun _ i _ => n - (intOf i).toNat)
  case atStart => exact ⟨0, by omega, rfl, HBB.out, ⟨rfl, Or.inl ⟨rfl, rfl⟩⟩, Below.refl _ w⟩
  case round =>
    obtain ⟨j, hj, rfl, hK⟩ := hrel
    have HK := Lib.hid hK
    clear hK
    by_cases hlt : j < n
    · obtain ⟨s, hs⟩ : ∃ s, xs[j]? = some s := ⟨xs[j]'(by rw [HN.out]; exact hlt), List.getElem?_eq_getElem _⟩
      have hc : wr.cell? ⟨g, j, none⟩ = some (.string s) := by rw [HK.out.1.cell j]; simp [hs]
      have HS := Lib.hid hs
      clear hs
      have hcv := run_bytes_of_string (P := Tryd.prog) wr 9 25 5 s Tryd.underlying9 Tryd.underlying25 Tryd.underlying5
      obtain ⟨w1, hw1⟩ : ∃ w1, wr.drew.alloc (.cells (bytesRow s (grownCap wr s.size 0 5)) 5 ((bytesRow s (grownCap wr s.size 0 5)).size, (bytesRow s (grownCap wr s.size 0 5)).size + 1)) = w1 := ⟨_, rfl⟩
      have HI := Lib.hid (KdI.start HK.out.1 HK.out.2.1 HK.out.2.2 hw1.symm)
      rw [hw1] at hcv
      obtain ⟨cap, hcap⟩ : ∃ cap, grownCap wr s.size 0 5 = cap := ⟨_, rfl⟩
      rw [hcap] at hcv
      obtain ⟨G, hG⟩ : ∃ G, wr.heap.size = G := ⟨_, rfl⟩
      rw [hG] at hcv HI
      obtain ⟨pre, hp⟩ : ∃ pre, ((xs.take j).map (·.data.toList)).flatten = pre := ⟨_, rfl⟩
      rw [hp] at HI
      have hlim : pre.length + s.size ≤ 1000000 ∧ (∀ c ∈ s.data.toList, okL c = true) ∧ ((xs.take (j + 1)).map (·.data.toList)).flatten = pre ++ s.data.toList := by
        have e1 : xs.take (j + 1) = xs.take j ++ [s] := by rw [List.take_add_one, HS.out]; rfl
        have e2 : ((xs.take (j + 1)).map (·.data.toList)).flatten = pre ++ s.data.toList := by rw [e1, List.map_append, List.flatten_append, hp]; simp
        have e3 : (xs.map (·.data.toList)).flatten = ((xs.take (j + 1)).map (·.data.toList)).flatten ++ ((xs.drop (j + 1)).map (·.data.toList)).flatten := by
          rw [← List.flatten_append, ← List.map_append, List.take_append_drop]
        refine ⟨?_, fun c hc => HOK.out c (by rw [e3, e2]; simp [hc]), e2⟩
        have h1 := flat_len xs
        have h2 := HZ.out
        rw [← h1, e3, e2] at h2
        simp only [List.length_append] at h2
        have : s.data.toList.length = s.size := rfl
        omega
      have HP := Lib.hid hlim.2.2
      have HL := Lib.hid hlim.2.1
      have hlm := hlim.1
      clear hw1 hcap hG hp hlim
      go_wp2_with fail
      go_loopw [3, 17] (fun v i wr => ∃ k : Nat, k ≤ s.size ∧ i = .int .i64 k ∧ KdI w wr g G xs s pre k v) (fun _ i _ => s.size - (intOf i).toNat)
      case atStart => exact ⟨0, by omega, rfl, HI.out⟩
      case round =>
        obtain ⟨k, hk, rfl, hI⟩ := hrel
        have HI2 := Lib.hid hI
        clear hI
        by_cases hks : k < s.size
        · have hb := HI2.out.bytes k hks
          have hcm : s.data[k] ∈ s.data.toList := by simp
          obtain ⟨hx1, hx2⟩ := idx_knd (HL.out _ hcm)
          obtain ⟨x, hx⟩ : ∃ x : Int, (knd (s.data[k]'hks) : Int) = x := ⟨_, rfl⟩
          obtain ⟨v', w', hrun, hI'⟩ := HI2.out.round (ty := 25) hks (by omega) x hx.symm
          have HI' := Lib.hid hI'
          have hib := fun W => sh_strings_IndexByte ⟨#[70, 79, 68, 76, 83, 80, 85, 86]⟩ ((s.data[k]'hks).toNat : Int) W
          rw [show ((⟨#[70, 79, 68, 76, 83, 80, 85, 86]⟩ : ByteArray).data.toList) = [70, 79, 68, 76, 83, 80, 85, 86] from rfl, show (((s.data[k]'hks).toNat : Int).toNat.toUInt8) = s.data[k]'hks from by simp, hx1, hx] at hib
          have x0 : 0 ≤ x := by omega
          have x1 : x < 8 := by omega
          have x2 : IntKind.u8.wrap x = x := by simp [IntKind.wrap, IntKind.signed, IntKind.bits]; omega
          obtain ⟨b, hbb⟩ : ∃ b : Int, ((s.data[k]'hks).toNat : Int) = b := ⟨_, rfl⟩
          rw [hbb] at hb hib
          clear hbb hx hx1 hx2 hI' hcm
          go_wp2_with (first
            | (go_at_call 46; refine (hib _).mono ?_; rintro e w' ⟨rfl, rfl⟩)
            | (at_builtin; refine wpList_append_run rfl (.tmp 21) (.tmp 25) 25 rfl rfl rfl hrun ?_))
          go_roundw
          case rel => exact ⟨k + 1, by omega, by go_num, HI'.out⟩
          case measure => simp [intOf]; omega
        · obtain rfl : k = s.size := by omega
          have own := HI2.out.own
          rw [List.take_of_length_le (by show s.data.size ≤ s.size; exact Nat.le_refl _)] at own
          have HO := Lib.hid own
          clear own
          go_wp2_with fail
          go_roundw
          case rel => exact ⟨j + 1, by omega, by go_num, HI2.out.strs, by rw [HP.out, List.length_append]; exact HO.out, HI2.out.below⟩
          case measure => simp [intOf]; omega
    · obtain rfl : j = n := by omega
      go_wp2_with fail
      go_ret
      refine ⟨_, rfl, ?_, HK.out.2.2⟩
      have := HK.out.2.1
      rw [List.take_of_length_le (by rw [HN.out]; exact Nat.le_refl _)] at this
      exact this
end Go.Proofs.YtmbbcfdeielopaaDoorRRRR
