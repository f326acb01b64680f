/-
  Texts of these proofs, one behind the other: Scr3.
-/
import Derived.Test.YtnhnphifhkkboaaDoorKSW17
import Derived.Test.YtnhnphifhkkboaaDoorKSW21
namespace Go.Proofs.YtnhnphifhkkboaaDoor
open Go.RowKit Go.Shelf
set_option linter.unusedVariables false
set_option linter.unusedSimpArgs false
set_option maxRecDepth 100000
theorem scstr_inf : (Tryd.prog.info? 9).map (fun i => (i.zero, i.size, i.bytes)) = some (some (.string ⟨#[]⟩), 1, 16) := by kernel_rfl
/-- One more string behind a row of the call's own. -/
theorem sr_more {w0 w : World} {B n : Nat} {v : Value} {xs : List Value} (own : w.ownsRow B 9 1 v n xs) (hB : Below B w0 w) (hb : B ≤ w.heap.size) (hn : n ≤ 1000000) (x : ByteArray) :
    ∃ v' w', (Builtin.append_ #[45, 45] 45 #[v, .slice (some ⟨w.heap.size, 0, none⟩) 1 1]).run Tryd.prog (w.alloc (.cells #[.string x] 9)) = .ok v' w' ∧ w'.ownsRow B 9 1 v' (n + 1) (xs ++ [.string x]) ∧ Below B w0 w' ∧
      (w.alloc (.cells #[.string x] 9)).grownBy w' v.ownBlock := by
  obtain ⟨v', w', hrun, own', gb⟩ := more_new (P := Tryd.prog) (t := 45) (e := 9) (ty := 45) (c := 1) (m := 1) Tryd.underlying45 scstr_inf rfl (by decide) own #[.string x] rfl (fun y hy => by simp at hy; subst hy; rfl) rfl (by omega) (by omega) hb
  exact ⟨v', w', hrun, own', (hB.alloc hb (.cells #[.string x] 9)).grown gb (by simp; omega) (fun i h => (own.lt i h).1), gb⟩
/-- Where a word begins, and the words that are over: the end is as a blank. -/
def wsT (s : ByteArray) (k : Nat) : Nat × List (Nat × Nat) := if k ≤ s.size then wsS s k else (s.size + 1, spW s)
def wsV (s : ByteArray) (l : List (Nat × Nat)) : List ByteArray := l.map fun x => s.extract x.1 x.2
theorem wsT_len (s : ByteArray) (k : Nat) (hk : k ≤ s.size) : (wsT s k).2.length ≤ s.size ∧ (wsT s k).1 ≤ k := by
  unfold wsT; rw [if_pos hk]
  have := wsS_len s k
  exact ⟨by omega, wsS_le s k⟩
theorem wsT_on (s : ByteArray) (k : Nat) (hk : k < s.size) (h : ¬ s.get! k = 32) : wsT s (k + 1) = wsT s k := by
  unfold wsT; rw [if_pos (by omega), if_pos (by omega), wsS, if_neg h]
theorem wsT_end (s : ByteArray) (k : Nat) (hk : k ≤ s.size) (h : k < s.size → s.get! k = 32) : wsT s (k + 1) = (k + 1, if (wsT s k).1 < k then (wsT s k).2 ++ [((wsT s k).1, k)] else (wsT s k).2) := by
  unfold wsT
  rw [if_pos hk]
  by_cases hlt : k < s.size
  · rw [if_pos (by omega), wsS, if_pos (h hlt)]
  · have : k = s.size := by omega
    subst this
    rw [if_neg (by omega)]; rfl
set_option maxHeartbeats 4000000 in
theorem rwords_any (s : ByteArray) (hs : s.size ≤ 1000000) (w : World) : Calls Tryd.prog 21 #[.string s] w fun e w' => WordsR (lineW s) w e w' := by
  have HL0 := Lib.hid (lineW_nil (s := s))
  have HL1 := Lib.hid (fun x r => lineW_off (s := s) (x := x) (r := r))
  have HL2 := Lib.hid (fun x r => lineW_on (s := s) (x := x) (r := r))
  go_enter Tryd.func21, Tryd.ntmps21
  go_wp2_with fail
  go_loopw [3, 4, 5] (fun v f i wr => ∃ k : Nat, k ≤ s.size + 1 ∧ i = .int .i64 (k : Int) ∧ f = .int .i64 ((wsT s k).1 : Int) ∧ wr.ownsRow w.heap.size 9 1 v (wsT s k).2.length ((wsV s (wsT s k).2).map Value.string) ∧ Below w.heap.size w wr) (fun _ _ i _ => s.size + 1 - (intOf i).toNat)
  case atStart => exact ⟨0, by omega, rfl, rfl, World.ownsRow_nil _ _ _ _, Below.refl _ _⟩
  case round =>
    obtain ⟨k, hk, rfl, rfl, own, hB⟩ := hrel
    by_cases hle : k ≤ s.size
    · obtain ⟨hln, hfk⟩ := wsT_len s k hle
      by_cases hon : k < s.size ∧ ¬ s.get! k = 32
      · have H1 := Lib.hid (wsT_on s k hon.1 hon.2)
        have hlt := hon.1
        have e0 : ((s[k].toNat : Int) != 32) = true := by
          have := hon.2; rw [getB s k hlt] at this
          rw [bne_iff_ne]; intro e; exact this (UInt8.toNat_inj.1 (by simpa using (by exact_mod_cast e : s[k].toNat = 32)))
        obtain ⟨P, hP⟩ : ∃ P, wsT s k = P := ⟨_, rfl⟩
        rw [hP] at own hln hfk H1 ⊢
        have OWN := Lib.hid own
        have HB := Lib.hid hB
        clear own hB hon hln hP
        go_wp2_with fail
        go_roundw
        case rel => exact ⟨k + 1, by omega, by go_num, by rw [H1.out], by rw [H1.out]; exact OWN.out, HB.out⟩
        case measure => simp [intOf]; omega
      · have H1 := Lib.hid (wsT_end s k hle (fun hlt => Classical.byContradiction fun h => hon ⟨hlt, h⟩))
        have hl : (k < s.size ∧ ∃ hk : k < s.size, ((s[k].toNat : Int) != 32) = false) ∨ k = s.size := by
          by_cases hlt : k < s.size
          · refine Or.inl ⟨hlt, hlt, ?_⟩
            have : s.get! k = 32 := Classical.byContradiction fun h => hon ⟨hlt, h⟩
            rw [getB s k hlt] at this; rw [this]; rfl
          · exact Or.inr (by omega)
        obtain ⟨P, hP⟩ : ∃ P, wsT s k = P := ⟨_, rfl⟩
        rw [hP] at own hln hfk H1 ⊢
        obtain ⟨f, l⟩ := P
        dsimp only at own hln hfk H1
        have OWN := Lib.hid own
        have HB := Lib.hid hB
        have hS := hB.size
        by_cases hgt : f < k
        · have HN : Hid (wsT s (k + 1) = (k + 1, l ++ [(f, k)])) := Lib.hid (by rw [H1.out, if_pos hgt])
          have hln' : (wsV s l).length = l.length := List.length_map _
          obtain ⟨v', w', hrun, own', hB', gb⟩ := sr_more own hB hS (by omega) (s.extract f k)
          have OWN' := Lib.hid own'
          have HB' := Lib.hid hB'
          clear own hB hon hln hP H1 own' hB' gb hln'
          rcases hl with ⟨hlt, hlt', e0⟩ | rfl
          all_goals (
            go_wp2_with (at_builtin; refine wpList_append_run rfl (.tmp 25) (.tmp 30) 45 rfl rfl rfl hrun ?_)
            go_roundw
            case rel =>
              first
              | exact ⟨k + 1, by omega, by go_num, by rw [HN.out]; rfl, by rw [HN.out]; simp only [List.length_append, List.length_singleton, wsV, List.map_append, List.map_cons, List.map_nil]; exact OWN'.out, HB'.out⟩
              | exact ⟨s.size + 1, by omega, by go_num, by rw [HN.out]; rfl, by rw [HN.out]; simp only [List.length_append, List.length_singleton, wsV, List.map_append, List.map_cons, List.map_nil]; exact OWN'.out, HB'.out⟩
            case measure => first | (simp [intOf]; omega) | simp [intOf])
        · have HN : Hid (wsT s (k + 1) = (k + 1, l)) := Lib.hid (by rw [H1.out, if_neg hgt])
          clear own hB hon hln hP H1
          rcases hl with ⟨hlt, hlt', e0⟩ | rfl
          all_goals (
            go_wp2_with fail
            go_roundw
            case rel =>
              first
              | exact ⟨k + 1, by omega, by go_num, by rw [HN.out]; rfl, by rw [HN.out]; exact OWN.out, HB.out⟩
              | exact ⟨s.size + 1, by omega, by go_num, by rw [HN.out]; rfl, by rw [HN.out]; exact OWN.out, HB.out⟩
            case measure => first | (simp [intOf]; omega) | simp [intOf])
    · obtain rfl : k = s.size + 1 := by omega
      have hT : (wsT s (s.size + 1)).2 = spW s := by unfold wsT; rw [if_neg (by omega)]
      have hV : wsV s (spW s) = wordsB s := rfl
      have hln : (spW s).length = (wordsB s).length := by unfold wordsB; rw [List.length_map]
      rw [hT, hV, hln] at own
      have hne := wordsB_ne s
      have hlen : (wordsB s).length ≤ s.size := by rw [← hln]; exact spW_len s
      obtain ⟨F, hF⟩ : ∃ F, (wsT s (s.size + 1)).1 = F := ⟨_, rfl⟩
      rw [hF]
      obtain ⟨xs, hxs⟩ : ∃ xs, wordsB s = xs := ⟨_, rfl⟩
      rw [hxs] at own HL0 HL1 HL2 hne hlen
      clear hT hV hln hF hxs
      obtain ⟨A, cap, rfl, hc1, hc2, HS, HT, hA0, hAb⟩ := own_srow own
      have e1 : ¬ ((s.size + 1 : Nat) : Int) ≤ s.size := by omega
      have hk1 : (((s.size + 1 : Nat) : Int) : Int) = (s.size : Int) + 1 := by omega
      clear hk1 hk hle
      have HW : Hid (WordsR xs w (.returned (.slice A xs.length cap)) wr) := Lib.hid ⟨_, _, rfl, hc1, hc2, HS, HT, hA0, hAb, hB⟩
      have HB := Lib.hid hB
      rcases xs with _ | ⟨x, r⟩
      · have HE : Hid (lineW s = []) := Lib.hid (HL0.out rfl)
        have hn0 : ([] : List ByteArray).length = 0 := rfl
        rw [hn0] at hc1 HW ⊢
        clear HL0 HL1 HL2 hne own HS HT hA0 hAb hB hlen hn0
        go_wp2_with fail
        all_goals (go_ret; rw [HE.out]; exact HW.out)
      · have hx0 := (hne x (by simp)).1
        have hx1 := (hne x (by simp)).2
        obtain ⟨ad, rfl, _, hcx⟩ := HS 0 x rfl
        have hc0 : wr.cell? ad = some (.string x) := hcx
        clear hcx
        obtain ⟨n, hn⟩ : ∃ n, (x :: r).length = n := ⟨_, rfl⟩
        have hl1 : 0 < n := by rw [← hn]; simp
        rw [hn] at hc1 HW ⊢
        have hl2 : (0 : Int) < n := by omega
        by_cases h35 : x.get! 0 = 35
        · have e0 : ((x[0].toNat : Int) == 35) = true := by rw [getB x 0 hx0] at h35; rw [h35]; rfl
          have HE : Hid (lineW s = []) := Lib.hid (HL1.out x r rfl h35)
          clear HL0 HL1 HL2 hne own HS HT hA0 hAb hB hlen h35 HW
          go_wp2_with fail
          all_goals (go_ret; rw [HE.out]; exact wordsR_nil _ _ HB.out)
        · have e0 : ((x[0].toNat : Int) == 35) = false := by
            rw [getB x 0 hx0] at h35
            rw [beq_eq_false_iff_ne]; intro e; exact h35 (UInt8.toNat_inj.1 (by simpa using (by exact_mod_cast e : x[0].toNat = 35)))
          have HE : Hid (lineW s = x :: r) := Lib.hid (HL2.out x r rfl h35)
          clear HL0 HL1 HL2 hne own HS HT hA0 hAb hB hlen h35
          go_wp2_with fail
          all_goals (go_ret; rw [HE.out]; exact HW.out)
end Go.Proofs.YtnhnphifhkkboaaDoor
