/-
  The interrupts' controller: the function that is ranged over gives the kinds that ask, in their order.
-/
import Derived.Test.YtjknjlkjpccibaaIrq3
namespace Go.Proofs.Ytjknjlkjpccibaa
open Go.RowKit Go.Shelf
set_option linter.unusedVariables false
set_option linter.unusedSimpArgs false
set_option maxRecDepth 100000
attribute [local go_sem] Oper.semAt_some
set_option maxHeartbeats 2000000 in
theorem ask_stops (n : Nat) (hn : 1 ≤ n) (bn : Nat) (f : Nat → Bool) (w : World) (hb : Blk w bn 121 (tArr 6 f)) :
    SeqStopsK Fence.wide n Try.prog 72 #[.pointer (some ⟨bn, 0, none⟩)] (fun x : Fin 6 => #[.int .u8 (x.val : Int)]) (fun _ _ => True) (fun xs => xs = askL f 6) (fun pre => pre <+: askL f 6) 6 w := fun l J Jx W hW hJ hJx hY h0 => by
  have hb2 := hb.below hW hb.lt
  have c0 : W.cell? ⟨bn, 0, none⟩ = some (.bool (f 0)) := hb2.cell 0
  have c1 : W.cell? ⟨bn, 1, none⟩ = some (.bool (f 1)) := hb2.cell 1
  have c2 : W.cell? ⟨bn, 2, none⟩ = some (.bool (f 2)) := hb2.cell 2
  have c3 : W.cell? ⟨bn, 3, none⟩ = some (.bool (f 3)) := hb2.cell 3
  have c4 : W.cell? ⟨bn, 4, none⟩ = some (.bool (f 4)) := hb2.cell 4
  have c5 : W.cell? ⟨bn, 5, none⟩ = some (.bool (f 5)) := hb2.cell 5
  have hix : ∀ (k : Nat) (W' : World), k < 6 → (Instr.index 121 (.agg #[.bool (f 0), .bool (f 1), .bool (f 2), .bool (f 3), .bool (f 4), .bool (f 5)]) (.int .i64 (k : Int))).run Try.prog W' = .ok (.bool (f k)) W' := fun k W' hk => by
    refine run_index_agg Try.underlying121 (by kernel_rfl) (by omega) (by omega) ?_ _
    have := tArr_at 6 f k hk
    rw [Int.toNat_natCast]
    exact this
  have HIX := Lib.hid hix
  clear hb hb2 hix hW
  refine callsIn_of_wp Try.func72 rfl trivial ?_ rfl
  simp only [Try.ntmps72, List.size_toArray, List.length_cons, List.length_nil, Nat.reduceAdd, Nat.reduceSub, Array.replicate_succ, Array.replicate_zero, List.push_toArray, List.append_toArray, List.nil_append, List.cons_append]
  gi_wp2
  clear c0 c1 c2 c3 c4 c5
  generalize (Value.agg #[.bool (f 0), .bool (f 1), .bool (f 2), .bool (f 3), .bool (f 4), .bool (f 5)]) = AV at *
  gi_loopw [6] (fun i wr => ∃ k : Nat, k ≤ 6 ∧ i = .int .i64 k ∧ J (askL f k) wr) (fun i wr => 6 - (intOf i).toNat)
  case atStart =>
    exact ⟨0, by omega, rfl, h0⟩
  case round =>
    obtain ⟨k, hk, rfl, hJs⟩ := hrel
    by_cases hlt : k < 6
    · have hi := HIX.out k wr hlt
      obtain ⟨fn, tmps, assign, body, hy, hR⟩ := hY (askL f k) ⟨k, hlt⟩ wr hJs (Nat.lt_of_le_of_lt (askL_len f k) hlt)
      dsimp only at hy
      have i0 : (k : Int) < 6 := by omega
      have i1 : (0 : Int) ≤ (k : Int) := by omega
      obtain ⟨x, hx⟩ : ∃ x, f k = x := ⟨_, rfl⟩
      rw [hx] at hi
      have e : askL f (k + 1) = if x = true then askL f k ++ [⟨k, hlt⟩] else askL f k := by
        simp only [askL]; rw [dif_pos hlt, hx]
      have HX := Lib.hid e
      clear hx e
      cases x with
      | false =>
        gi_wp2
        refine ⟨fun _ h => (by cases h), ?_⟩
        gi_wp2
        go_roundw
        case rel => exact ⟨k + 1, by omega, by go_num, by rw [HX.out]; exact hJs⟩
        case measure => simp [intOf]; omega
      | true =>
        gi_wp2
        refine hR.mono ?_
        rintro e W3 (⟨rfl, hJ3, _⟩ | ⟨rfl, hJx3⟩)
        · gi_wp2
          go_roundw
          case rel => exact ⟨k + 1, by omega, by go_num, by rw [HX.out]; exact hJ3⟩
          case measure => simp [intOf]; omega
        · gi_wp2
          refine bodyPost_ret (results_none rfl _ _ _) rfl ?_
          refine ⟨⟨_, rfl⟩, .inr ⟨_, ?_, hJx3⟩⟩
          have := askL_pre f (k + 1) 6 (by omega)
          rw [HX.out, if_pos (by simp)] at this
          exact this
    · obtain rfl : k = 6 := by omega
      have i0 : ¬ ((6 : Nat) : Int) < 6 := by omega
      gi_wp2
      go_end0
      first | exact ⟨⟨_, rfl⟩, .inl ⟨_, rfl, hJs⟩⟩ | exact ⟨⟨_, rfl⟩, .inl hJs⟩
end Go.Proofs.Ytjknjlkjpccibaa
