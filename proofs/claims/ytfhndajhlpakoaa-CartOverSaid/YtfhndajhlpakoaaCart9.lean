/-
  What cart's Word, words and Program answer; they only make memory.
-/
import Derived.Test.YtfhndajhlpakoaaCart5
import Derived.Test.YtfhndajhlpakoaaCart8
import Derived.Test.YtfhndajhlpakoaaM6
namespace Go.Proofs.Ytfhndajhlpakoaa
open Go.RowKit
set_option linter.unusedVariables false
def wordAt (n : Nat) (z : Nat → Int) (o : Int) : Int := wordI (readI n z (o % 8192)) (readI n z (IntKind.u16.wrap (o + 1) % 8192))
set_option maxHeartbeats 2000000 in
theorem word_any' {w : World} (A : Option Addr) (n c : Nat) (z : Nat → Int) (o : Int) (hn : n ≤ maxLen) (R : IRow w .u8 A n z) (o0 : 0 ≤ o) (o1 : o ≤ 65535) :
    Calls Try.prog 43 #[.slice A n c, .int .u16 o] w fun e w' => e = .returned (.int .u16 (wordAt n z o)) ∧ Below w.heap.size w w' := by
  unfold wordAt
  by_cases h : o < 65535
  · rw [IntWalk.u16_in (o + 1) (by omega)]
    go_enter Try.func43, Try.ntmps43
    go_wp2_with fail
    refine (asV (addr_any 0 o _ (by omega) (by omega) (by omega) (by omega)) (show _ = Value.int .u32 (o % 8192) by simp)).mono ?_; rintro e w' ⟨rfl, rfl⟩
    go_wp2_with fail
    refine (read_any A n c z _ hn R (by omega) (by omega)).mono ?_; rintro e w2 ⟨rfl, hb⟩
    have R2 := R.keep hb
    go_wp2_with fail
    refine (asV (addr_any 0 (o + 1) _ (by omega) (by omega) (by omega) (by omega)) (show _ = Value.int .u32 (((o + 1)) % 8192) by simp)).mono ?_; rintro e w' ⟨rfl, rfl⟩
    go_wp2_with fail
    refine (read_any A n c z _ hn R2 (by omega) (by omega)).mono ?_; rintro e w3 ⟨rfl, hb2⟩
    go_wp2_with fail
    refine (word_any _ _ _).mono ?_; rintro e w' ⟨rfl, rfl⟩
    go_wp2_with fail
    go_ret
    exact ⟨rfl, hb.trans (hb2.mono hb.size)⟩
  · obtain rfl : o = 65535 := by omega
    rw [show IntKind.u16.wrap (65535 + 1) = 0 from rfl]
    clear h
    go_enter Try.func43, Try.ntmps43
    go_wp2_with fail
    refine (asV (addr_any 0 65535 _ (by omega) (by omega) (by omega) (by omega)) (show _ = Value.int .u32 (65535 % 8192) by simp)).mono ?_; rintro e w' ⟨rfl, rfl⟩
    go_wp2_with fail
    refine (read_any A n c z _ hn R (by omega) (by omega)).mono ?_; rintro e w2 ⟨rfl, hb⟩
    have R2 := R.keep hb
    go_wp2_with fail
    refine (asV (addr_any 0 0 _ (by omega) (by omega) (by omega) (by omega)) (show _ = Value.int .u32 ((0) % 8192) by simp)).mono ?_; rintro e w' ⟨rfl, rfl⟩
    go_wp2_with fail
    refine (read_any A n c z _ hn R2 (by omega) (by omega)).mono ?_; rintro e w3 ⟨rfl, hb2⟩
    go_wp2_with fail
    refine (word_any _ _ _).mono ?_; rintro e w' ⟨rfl, rfl⟩
    go_wp2_with fail
    go_ret
    exact ⟨rfl, hb.trans (hb2.mono hb.size)⟩
/-- The bytes of words, the low one of each first. -/
def wz (gs : Nat → Int) (i : Nat) : Int := if i % 2 = 0 then IntKind.u8.wrap (gs (i / 2)) else IntKind.u8.wrap (gs (i / 2) / 256)
theorem wz_even (gs : Nat → Int) (k : Nat) : wz gs (2 * k) = IntKind.u8.wrap (gs k) := by unfold wz; rw [if_pos (by omega), show 2 * k / 2 = k by omega]
theorem wz_odd (gs : Nat → Int) (k : Nat) : wz gs (2 * k + 1) = IntKind.u8.wrap (gs k / 256) := by unfold wz; rw [if_neg (by omega), show (2 * k + 1) / 2 = k by omega]
theorem wz_wf (gs : Nat → Int) (i : Nat) : (Lit.int .u8 (wz gs i)).wf = true := by
  unfold wz; split <;> (rw [IntKind.wrap_u8]; exact WalkArith.wf_u8 (by omega))
theorem bytesOf_two (gs : Nat → Int) (k : Nat) : bytesOf (wz gs) (2 * (k + 1)) = bytesOf (wz gs) (2 * k) ++ [.int .u8 (IntKind.u8.wrap (gs k)), .int .u8 (IntKind.u8.wrap (gs k / 256))] := by
  unfold bytesOf
  rw [show 2 * (k + 1) = 2 * k + 1 + 1 by omega, List.range_succ, List.range_succ, List.map_append, List.map_append, List.append_assoc]
  simp [wz_even, wz_odd]
def aggW (gs : Nat → Int) : Array Value := #[.int .u16 (gs 0), .int .u16 (gs 1), .int .u16 (gs 2), .int .u16 (gs 3), .int .u16 (gs 4)]
theorem aggW_at (gs : Nat → Int) (k : Nat) (h : k < 5) : (aggW gs)[k]? = some (.int .u16 (gs k)) := by
  have : k = 0 ∨ k = 1 ∨ k = 2 ∨ k = 3 ∨ k = 4 := by omega
  rcases this with rfl | rfl | rfl | rfl | rfl <;> rfl
set_option maxRecDepth 100000 in
set_option maxHeartbeats 2000000 in
theorem words_any (gs : Nat → Int) (w : World) :
    Calls Try.prog 69 #[.agg #[.int .u16 (gs 0), .int .u16 (gs 1), .int .u16 (gs 2), .int .u16 (gs 3), .int .u16 (gs 4)]] w fun e w' => (∃ g cap, e = .returned (.slice (some ⟨g, 0, none⟩) 10 cap) ∧ 10 ≤ cap ∧ cap ≤ maxLen ∧ IRow w' .u8 (some ⟨g, 0, none⟩) 10 (wz gs)) ∧ Below w.heap.size w w' := by
  go_enter Try.func69, Try.ntmps69
  go_wp2_with fail
  have hB0 : Below w.heap.size w (w.alloc (.cells #[.int .u16 (gs 0), .int .u16 (gs 1), .int .u16 (gs 2), .int .u16 (gs 3), .int .u16 (gs 4)] 81)) := (Below.refl _ _).alloc (Nat.le_refl _) _
  generalize w.alloc (.cells #[.int .u16 (gs 0), .int .u16 (gs 1), .int .u16 (gs 2), .int .u16 (gs 3), .int .u16 (gs 4)] 81) = w1 at *
  go_loopw [3, 7] (fun v i wr => ∃ k : Nat, k ≤ 5 ∧ i = .int .i64 k ∧ wr.ownsRow w.heap.size 5 1 v (2 * k) (bytesOf (wz gs) (2 * k)) ∧ Below w.heap.size w wr) (fun _ i _ => 5 - (intOf i).toNat)
  case atStart => exact ⟨0, by omega, rfl, ⟨rfl, Or.inl ⟨rfl, rfl⟩⟩, hB0⟩
  case round =>
    obtain ⟨k, hk, rfl, own, hB⟩ := hrel
    have zB := hB.size
    by_cases hlt : k < 5
    · have hx := fun W => run_index_agg (P := Try.prog) (t := 81) Try.underlying81 (by kernel_rfl) (cs := aggW gs) (k := .i64) (i := (k : Int)) (by omega) (by omega) (aggW_at gs k hlt) W
      unfold aggW at hx
      obtain ⟨v', w', hrun, own', gb⟩ := more_new (P := Try.prog) (ty := 23) (c := 2) (m := 2) (g := wr.heap.size) Try.underlying23 u8_info rfl (by decide) own #[.int .u8 (IntKind.u8.wrap (gs k)), .int .u8 (IntKind.u8.wrap (gs k / 256))] rfl (by simp [Value.oneCell']) rfl (by omega) (by omega) zB
      have hB' : Below w.heap.size w w' := (hB.alloc zB _).grown gb (by simp; omega) (fun j h => (own.lt j h).1)
      have own2 : w'.ownsRow w.heap.size 5 1 v' (2 * (k + 1)) (bytesOf (wz gs) (2 * (k + 1))) := by
        rw [bytesOf_two]; exact own'
      have HO := Lib.hid own2
      clear own2 own'
      go_wp2_with (first
        | (go_at_call 74; refine (lo_any _ _).mono ?_; rintro e w' ⟨rfl, rfl⟩)
        | (go_at_call 75; refine (hi_any _ _).mono ?_; rintro e w' ⟨rfl, rfl⟩)
        | (at_builtin; refine wpList_append_run rfl (.tmp 10) (.tmp 15) 23 rfl rfl rfl hrun ?_))
      go_roundw
      case rel => exact ⟨k + 1, by omega, by go_num, HO.out, hB'⟩
      case measure => simp [intOf]; omega
    · obtain rfl : k = 5 := by omega
      rcases own.2 with ⟨_, h0⟩ | ⟨g, cap, cur, rfl, hg, hh, hnc, hcm, hcs, hcur⟩
      · exact absurd h0 (by decide)
      · have R : IRow wr .u8 (some ⟨g, 0, none⟩) 10 (wz gs) := fun i hi => ⟨_, rfl, (own.lt g rfl).2, own.cells rfl i _ (bytesOf_at (wz gs) 10 i hi), wz_wf gs i⟩
        have HR := Lib.hid R
        clear own R
        go_wp2_with fail
        go_ret
        exact ⟨⟨g, cap, rfl, hnc, hcm, HR.out⟩, hB⟩
end Go.Proofs.Ytfhndajhlpakoaa
