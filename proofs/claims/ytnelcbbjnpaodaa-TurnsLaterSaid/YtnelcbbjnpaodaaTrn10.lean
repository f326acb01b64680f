/-
  Layer 17: the reference's Round.
-/
import Derived.Test.YtnelcbbjnpaodaaTrn9
namespace Go.Proofs.Ytnelcbbjnpaodaa
open Go.RowKit
set_option linter.unusedVariables false
set_option linter.unusedSimpArgs false
set_option maxRecDepth 100000
/-- What the reference's two loops have summed. -/
def pin (a b : Nat → Int) (i : Nat) (base : Nat → Int) : Nat → Nat → Int
  | 0, n => base n
  | k + 1, n => if n = (i + k) % 4 then pin a b i base k ((i + k) % 4) + a i * b k else pin a b i base k n
def pout (a b : Nat → Int) : Nat → Nat → Int
  | 0, _ => 0
  | i + 1, n => pin a b i (pout a b i) 4 n
theorem pout_cnv (a b : Nat → Int) {n : Nat} (hn : n < 4) : pout a b 4 n = cnv a b n := by
  have : n = 0 ∨ n = 1 ∨ n = 2 ∨ n = 3 := by omega
  rcases this with rfl | rfl | rfl | rfl <;> simp [pout, pin, cnv] <;> omega
theorem pin_bd {a b : Nat → Int} {M : Nat} (h : ∀ i k, i < 4 → k < 4 → (a i * b k).natAbs ≤ M) {i N : Nat} (hi : i < 4) {base : Nat → Int} (hb : ∀ n, (base n).natAbs ≤ N) : ∀ {k : Nat}, k ≤ 4 → ∀ n, (pin a b i base k n).natAbs ≤ N + k * M
  | 0, _, n => by simpa [pin] using hb n
  | k + 1, hk, n => by
    have h1 := pin_bd h hi hb (k := k) (by omega) n
    have h2 := pin_bd h hi hb (k := k) (by omega) ((i + k) % 4)
    have h3 := h i k hi (by omega)
    simp only [pin]
    rw [Nat.succ_mul]
    split <;> omega
theorem pout_bd {a b : Nat → Int} {M : Nat} (h : ∀ i k, i < 4 → k < 4 → (a i * b k).natAbs ≤ M) : ∀ {i : Nat}, i ≤ 4 → ∀ n, (pout a b i n).natAbs ≤ i * (4 * M)
  | 0, _, n => by simp [pout]
  | i + 1, hi, n => by
    have := pin_bd h (by omega : i < 4) (fun n => pout_bd h (by omega : i ≤ 4) n) (k := 4) (by omega) n
    simp only [pout]
    rw [Nat.succ_mul]
    omega
set_option maxHeartbeats 8000000 in
theorem trround_any (f g : Nat → Int) (hWf : ∀ i, i < 4 → (Lit.int .i64 (f i)).wf = true) (hWg : ∀ i, i < 4 → (Lit.int .i64 (g i)).wf = true) (w : World) :
    Calls Try.prog 18 #[.agg #[.int .i64 (f 0), .int .i64 (f 1), .int .i64 (f 2), .int .i64 (f 3)], .agg #[.int .i64 (g 0), .int .i64 (g 1), .int .i64 (g 2), .int .i64 (g 3)]] w fun e w' => e = .returned (.tuple #[.agg (iArr .i64 4 (rndV f g)), .int .i64 (rndE f g)]) ∧ Below w.heap.size w w' := by
  obtain ⟨E, hE⟩ : ∃ E, rndE f g = E := ⟨_, rfl⟩
  obtain ⟨V, hV⟩ : ∃ V, rndV f g = V := ⟨_, rfl⟩
  rw [hE, hV]
  have HE := Lib.hid hE
  have HV := Lib.hid hV
  have HZ : Hid (E ≠ 0 → iArr .i64 4 V = vArr 4 fun _ => .int .i64 0) := Lib.hid fun he => by
    rw [iArr_v]
    exact vArr_congr fun i _ => by rw [← HV.out]; unfold rndV; rw [hE, if_neg he]
  have hqa : Blk (((w.alloc (.cells #[.int .i64 (f 0), .int .i64 (f 1), .int .i64 (f 2), .int .i64 (f 3)] 24)).alloc (.cells #[.int .i64 (g 0), .int .i64 (g 1), .int .i64 (g 2), .int .i64 (g 3)] 24)).alloc (.cells #[.int .i64 0, .int .i64 0, .int .i64 0, .int .i64 0] 24)) w.heap.size 24 #[.int .i64 (f 0), .int .i64 (f 1), .int .i64 (f 2), .int .i64 (f 3)] := Blk.alloc (Blk.alloc (Blk.new_ rfl) _) _
  have hqb : Blk (((w.alloc (.cells #[.int .i64 (f 0), .int .i64 (f 1), .int .i64 (f 2), .int .i64 (f 3)] 24)).alloc (.cells #[.int .i64 (g 0), .int .i64 (g 1), .int .i64 (g 2), .int .i64 (g 3)] 24)).alloc (.cells #[.int .i64 0, .int .i64 0, .int .i64 0, .int .i64 0] 24)) (w.heap.size + 1) 24 #[.int .i64 (g 0), .int .i64 (g 1), .int .i64 (g 2), .int .i64 (g 3)] := Blk.alloc (Blk.new_ (by simp)) _
  have hq0 : Blk (((w.alloc (.cells #[.int .i64 (f 0), .int .i64 (f 1), .int .i64 (f 2), .int .i64 (f 3)] 24)).alloc (.cells #[.int .i64 (g 0), .int .i64 (g 1), .int .i64 (g 2), .int .i64 (g 3)] 24)).alloc (.cells #[.int .i64 0, .int .i64 0, .int .i64 0, .int .i64 0] 24)) (w.heap.size + 1 + 1) 24 (vArr 4 fun _ => .int .i64 0) := Blk.new_ (by simp)
  have hB : Below w.heap.size w (((w.alloc (.cells #[.int .i64 (f 0), .int .i64 (f 1), .int .i64 (f 2), .int .i64 (f 3)] 24)).alloc (.cells #[.int .i64 (g 0), .int .i64 (g 1), .int .i64 (g 2), .int .i64 (g 3)] 24)).alloc (.cells #[.int .i64 0, .int .i64 0, .int .i64 0, .int .i64 0] 24)) := (((Below.refl _ w).alloc (Nat.le_refl _) _).alloc (by simp) _).alloc (by simp; omega) _
  have QA := Lib.hid hqa
  have QG := Lib.hid hqb
  have Q0 := Lib.hid hq0
  have QB := Lib.hid hB
  have HIF : Hid (IRow (((w.alloc (.cells #[.int .i64 (f 0), .int .i64 (f 1), .int .i64 (f 2), .int .i64 (f 3)] 24)).alloc (.cells #[.int .i64 (g 0), .int .i64 (g 1), .int .i64 (g 2), .int .i64 (g 3)] 24)).alloc (.cells #[.int .i64 0, .int .i64 0, .int .i64 0, .int .i64 0] 24)) .i64 (some ⟨w.heap.size, 0, none⟩) 4 f) := Lib.hid (irow_blk (k := .i64) (n := 4) (z := f) hqa hWf)
  have HIG : Hid (IRow (((w.alloc (.cells #[.int .i64 (f 0), .int .i64 (f 1), .int .i64 (f 2), .int .i64 (f 3)] 24)).alloc (.cells #[.int .i64 (g 0), .int .i64 (g 1), .int .i64 (g 2), .int .i64 (g 3)] 24)).alloc (.cells #[.int .i64 0, .int .i64 0, .int .i64 0, .int .i64 0] 24)) .i64 (some ⟨w.heap.size + 1, 0, none⟩) 4 g) := Lib.hid (irow_blk (k := .i64) (n := 4) (z := g) hqb hWg)
  obtain ⟨FF, hFF⟩ : ∃ F, farB f 262144 4 = F := ⟨_, rfl⟩
  obtain ⟨FG, hFG⟩ : ∃ F, farB g 262144 4 = F := ⟨_, rfl⟩
  have HFF := Lib.hid hFF
  have HFG := Lib.hid hFG
  have hEE : E = if FF = true then 1 else if FG = true then 1 else 0 := by rw [← hE]; unfold rndE; rw [hFF, hFG]
  have hrf : rowE f 4 = if FF = true then 1 else 0 := by unfold rowE; rw [if_neg (by decide), hFF]
  have hrg : rowE g 4 = if FG = true then 1 else 0 := by unfold rowE; rw [if_neg (by decide), hFG]
  clear hqa hqb hq0 hB hE hV hFF hFG hWf hWg
  cases FF with
  | true =>
    obtain rfl : E = 1 := hEE
    have HRF : Hid (rowE f 4 = 1) := Lib.hid hrf
    clear hrf hrg
    go_enter Try.func18, Try.ntmps18
    go_wp2_with fail
    generalize World.alloc _ _ = w3 at *
    refine (twrong_any HIF.out (by decide)).mono ?_
    rw [HRF.out]
    rintro e w' ⟨rfl, rfl⟩
    have K0 := Q0.out
    have d0 : w3.cell? ⟨w.heap.size + 1 + 1, 0, none⟩ = some (.int .i64 0) := K0.cell 0
    have g0 := K0.frozen 0
    have d1 : w3.cell? ⟨w.heap.size + 1 + 1, 1, none⟩ = some (.int .i64 0) := K0.cell 1
    have g1 := K0.frozen 1
    have d2 : w3.cell? ⟨w.heap.size + 1 + 1, 2, none⟩ = some (.int .i64 0) := K0.cell 2
    have g2 := K0.frozen 2
    have d3 : w3.cell? ⟨w.heap.size + 1 + 1, 3, none⟩ = some (.int .i64 0) := K0.cell 3
    have g3 := K0.frozen 3
    clear K0
    go_wp2_with fail
    refine bodyPost_ret (v := .tuple #[.agg (vArr 4 fun _ => .int .i64 0), .int .i64 1]) (results_cell_tmp (a := ⟨w.heap.size + 1 + 1, 0, none⟩) Try.results18 (by rfl) ((Q0.out.put4 rfl (fun _ => .int .i64 0)).run_load Try.underlying24 rfl tinfo4) rfl) rfl ?_
    exact ⟨by rw [HZ.out (by decide)], below4 QB.out (by omega) (fun _ => .int .i64 0)⟩
  | false =>
  cases FG with
  | true =>
    obtain rfl : E = 1 := hEE
    have HRF : Hid (rowE f 4 = 0) := Lib.hid hrf
    have HRG : Hid (rowE g 4 = 1) := Lib.hid hrg
    clear hrf hrg
    go_enter Try.func18, Try.ntmps18
    go_wp2_with fail
    generalize World.alloc _ _ = w3 at *
    refine (twrong_any HIF.out (by decide)).mono ?_
    rw [HRF.out]
    rintro e w' ⟨rfl, rfl⟩
    go_wp2_with fail
    refine (twrong_any HIG.out (by decide)).mono ?_
    rw [HRG.out]
    rintro e w' ⟨rfl, rfl⟩
    have K0 := Q0.out
    have d0 : w3.cell? ⟨w.heap.size + 1 + 1, 0, none⟩ = some (.int .i64 0) := K0.cell 0
    have g0 := K0.frozen 0
    have d1 : w3.cell? ⟨w.heap.size + 1 + 1, 1, none⟩ = some (.int .i64 0) := K0.cell 1
    have g1 := K0.frozen 1
    have d2 : w3.cell? ⟨w.heap.size + 1 + 1, 2, none⟩ = some (.int .i64 0) := K0.cell 2
    have g2 := K0.frozen 2
    have d3 : w3.cell? ⟨w.heap.size + 1 + 1, 3, none⟩ = some (.int .i64 0) := K0.cell 3
    have g3 := K0.frozen 3
    clear K0
    go_wp2_with fail
    refine bodyPost_ret (v := .tuple #[.agg (vArr 4 fun _ => .int .i64 0), .int .i64 1]) (results_cell_tmp (a := ⟨w.heap.size + 1 + 1, 0, none⟩) Try.results18 (by rfl) ((Q0.out.put4 rfl (fun _ => .int .i64 0)).run_load Try.underlying24 rfl tinfo4) rfl) rfl ?_
    exact ⟨by rw [HZ.out (by decide)], below4 QB.out (by omega) (fun _ => .int .i64 0)⟩
  | false =>
  obtain rfl : E = 0 := hEE
  have HRF : Hid (rowE f 4 = 0) := Lib.hid hrf
  have HRG : Hid (rowE g 4 = 0) := Lib.hid hrg
  clear hrf hrg
  have HNF := farB_not.1 HFF.out
  have HNG := farB_not.1 HFG.out
  have HM : Hid (∀ i k, i < 4 → k < 4 → (f i * g k).natAbs ≤ 68719476736) := Lib.hid fun i k hi hk => by
    have a1 := HNF i hi
    have a2 := HNG k hk
    have := tmul_le (x := f i) (y := g k) (M := 262144) (N := 262144) (by omega) (by omega)
    omega
  clear HNF HNG
  go_enter Try.func18, Try.ntmps18
  go_wp2_with fail
  generalize World.alloc _ _ = w3 at *
  refine (twrong_any HIF.out (by decide)).mono ?_
  rw [HRF.out]
  rintro e w' ⟨rfl, rfl⟩
  go_wp2_with fail
  refine (twrong_any HIG.out (by decide)).mono ?_
  rw [HRG.out]
  rintro e w' ⟨rfl, rfl⟩
  have HS3 := Lib.hid Q0.out.lt
  have hQ1 : Blk (w3.alloc (.cells #[.int .i64 0, .int .i64 0, .int .i64 0, .int .i64 0] 24)) w3.heap.size 24 (iArr .i64 4 (pout f g 0)) := Blk.new w3 _ _
  have hQA : Blk (w3.alloc (.cells #[.int .i64 0, .int .i64 0, .int .i64 0, .int .i64 0] 24)) w.heap.size 24 #[.int .i64 (f 0), .int .i64 (f 1), .int .i64 (f 2), .int .i64 (f 3)] := QA.out.alloc _
  have hQG : Blk (w3.alloc (.cells #[.int .i64 0, .int .i64 0, .int .i64 0, .int .i64 0] 24)) (w.heap.size + 1) 24 #[.int .i64 (g 0), .int .i64 (g 1), .int .i64 (g 2), .int .i64 (g 3)] := QG.out.alloc _
  have hQ0 : Blk (w3.alloc (.cells #[.int .i64 0, .int .i64 0, .int .i64 0, .int .i64 0] 24)) (w.heap.size + 1 + 1) 24 (vArr 4 fun _ => .int .i64 0) := Q0.out.alloc _
  have hQB : Below w.heap.size w (w3.alloc (.cells #[.int .i64 0, .int .i64 0, .int .i64 0, .int .i64 0] 24)) := QB.out.alloc QB.out.size _
  obtain ⟨h, hh⟩ : ∃ h, w3.heap.size = h := ⟨_, rfl⟩
  have hlh : w.heap.size + 1 + 1 < h := by have := HS3.out; omega
  rw [hh] at hQ1
  have QA := Lib.hid hQA
  have QG := Lib.hid hQG
  have Q0 := Lib.hid hQ0
  have Q1 := Lib.hid hQ1
  have QB := Lib.hid hQB
  clear hQ1 hQA hQG hQ0 hQB HS3 HIF HIG
  go_wp2_with fail
  clear hh
  generalize World.alloc _ _ = w4 at *
  go_loopw [7] (fun i wr => ∃ k : Nat, k ≤ 4 ∧ i = .int .i64 k ∧ Blk wr w.heap.size 24 #[.int .i64 (f 0), .int .i64 (f 1), .int .i64 (f 2), .int .i64 (f 3)] ∧ Blk wr (w.heap.size + 1) 24 #[.int .i64 (g 0), .int .i64 (g 1), .int .i64 (g 2), .int .i64 (g 3)] ∧ Blk wr (w.heap.size + 1 + 1) 24 (vArr 4 fun _ => .int .i64 0) ∧ Blk wr h 24 (iArr .i64 4 (pout f g k)) ∧ Below w.heap.size w wr) (fun i _ => 4 - (intOf i).toNat)
  case atStart => exact ⟨0, by omega, rfl, QA.out, QG.out, Q0.out, Q1.out, QB.out⟩
  case round =>
    clear QA QG Q0 Q1 QB
    obtain ⟨k, hk, rfl, hqa, hqg, hq0, hq1, hB⟩ := hrel
    have QA := Lib.hid hqa
    have QG := Lib.hid hqg
    have Q0 := Lib.hid hq0
    have Q1 := Lib.hid hq1
    have QB := Lib.hid hB
    clear hqa hqg hq0 hB
    by_cases hlt : k < 4
    · have i1 : (k : Int) < 4 := by omega
      clear hq1
      go_wp2_with fail
      go_loopw [8] (fun i wr => ∃ m : Nat, m ≤ 4 ∧ i = .int .i64 m ∧ Blk wr w.heap.size 24 #[.int .i64 (f 0), .int .i64 (f 1), .int .i64 (f 2), .int .i64 (f 3)] ∧ Blk wr (w.heap.size + 1) 24 #[.int .i64 (g 0), .int .i64 (g 1), .int .i64 (g 2), .int .i64 (g 3)] ∧ Blk wr (w.heap.size + 1 + 1) 24 (vArr 4 fun _ => .int .i64 0) ∧ Blk wr h 24 (iArr .i64 4 (pin f g k (pout f g k) m)) ∧ Below w.heap.size w wr) (fun i _ => 4 - (intOf i).toNat)
      case atStart => exact ⟨0, by omega, rfl, QA.out, QG.out, Q0.out, Q1.out, QB.out⟩
      case round =>
        clear QA QG Q0 Q1 QB
        obtain ⟨m, hm, rfl, hqa, hqg, hq0, hq1, hB⟩ := hrel
        have QA := Lib.hid hqa
        have QG := Lib.hid hqg
        have Q0 := Lib.hid hq0
        have Q1 := Lib.hid hq1
        have QB := Lib.hid hB
        clear hq0 hB
        by_cases hltm : m < 4
        · have j1 : (m : Int) < 4 := by omega
          have j2 : (0 : Int) ≤ (m : Int) := by omega
          have i2 : (0 : Int) ≤ (k : Int) := by omega
          obtain ⟨s, hs⟩ : ∃ s : Nat, k + m = s := ⟨_, rfl⟩
          have hsum : (k : Int) + (m : Int) = (s : Int) := by omega
          have hs4 : s % 4 < 4 := Nat.mod_lt _ (by decide)
          have hmb := HM.out k m hlt hltm
          have hub := pin_bd HM.out hlt (fun n => pout_bd HM.out (by omega : k ≤ 4) n) (k := m) (by omega) (s % 4)
          have hcap : k * (4 * 68719476736) ≤ 4 * (4 * 68719476736) := Nat.mul_le_mul_right _ (by omega)
          obtain ⟨a, ha⟩ : ∃ a, f k = a := ⟨_, rfl⟩
          obtain ⟨b, hb⟩ : ∃ b, g m = b := ⟨_, rfl⟩
          obtain ⟨u, hu⟩ : ∃ u, pin f g k (pout f g k) m (s % 4) = u := ⟨_, rfl⟩
          obtain ⟨p, hp⟩ : ∃ p, a * b = p := ⟨_, rfl⟩
          rw [ha, hb, hp] at hmb
          rw [hu] at hub
          have hp1 : -68719476736 ≤ p ∧ p ≤ 68719476736 := by omega
          have hu1 : -2000000000000 ≤ u ∧ u ≤ 2000000000000 := by omega
          obtain ⟨p1, p2⟩ := hp1
          obtain ⟨u1, u2⟩ := hu1
          have hca : wr.cell? ⟨w.heap.size, k, none⟩ = some (.int .i64 a) := by rw [hqa.cell, ← ha]; exact iArr_at .i64 4 f k hlt
          have hcb : wr.cell? ⟨w.heap.size + 1, m, none⟩ = some (.int .i64 b) := by rw [hqg.cell, ← hb]; exact iArr_at .i64 4 g m hltm
          have hcu : wr.cell? ⟨h, s % 4, none⟩ = some (.int .i64 u) := by rw [hq1.cell, iArr_at .i64 4 _ _ hs4, hu]
          have hfu : wr.frozen? ⟨h, s % 4, none⟩ = false := hq1.frozen _
          have HEQ := Lib.hid (And.intro hs (And.intro ha (And.intro hb (And.intro hu hp))))
          clear hqa hqg hq1 hs ha hb hu hmb hub hcap
          go_wp2_with fail
          go_region
          all_goals
            go_wp2_with fail
            go_roundw
            case rel =>
              refine ⟨m + 1, by omega, by go_num, QA.out.drew_.far (p := ⟨h, s % 4, none⟩) (by simp; omega) _, QG.out.drew_.far (p := ⟨h, s % 4, none⟩) (by simp; omega) _, Q0.out.drew_.far (p := ⟨h, s % 4, none⟩) (by simp; omega) _, ?_, QB.out.drew.setCell (p := ⟨h, s % 4, none⟩) (by simp; omega) _⟩
              have := Q1.out.drew_.set_ (s % 4) (.int .i64 (u + p))
              rw [iArr_set] at this
              have e : iArr .i64 4 (fun j => if j = s % 4 then u + p else pin f g k (pout f g k) m j) = iArr .i64 4 (pin f g k (pout f g k) (m + 1)) := iArr_congr fun i _ => by simp only [pin]; rw [HEQ.out.1, HEQ.out.2.2.2.1, HEQ.out.2.1, HEQ.out.2.2.1, HEQ.out.2.2.2.2]
              rw [e] at this
              exact this
            case measure => simp [intOf]; omega
        · have j1 : ¬ (m : Int) < 4 := by omega
          obtain rfl : m = 4 := by omega
          clear hqa hqg hq1
          go_wp2_with fail
          go_roundw
          case rel => exact ⟨k + 1, by omega, by go_num, QA.out, QG.out, Q0.out, Q1.out, QB.out⟩
          case measure => simp [intOf]; omega
    · have i1 : ¬ (k : Int) < 4 := by omega
      obtain rfl : k = 4 := by omega
      have HVV : iArr .i64 4 (pout f g 4) = iArr .i64 4 V := iArr_congr fun n hn => by rw [pout_cnv f g hn, ← HV.out]; unfold rndV; rw [if_pos HE.out]
      rw [HVV] at hq1
      have c0 : wr.cell? ⟨h, 0, none⟩ = some (.int .i64 (V 0)) := hq1.cell 0
      have c1 : wr.cell? ⟨h, 1, none⟩ = some (.int .i64 (V 1)) := hq1.cell 1
      have c2 : wr.cell? ⟨h, 2, none⟩ = some (.int .i64 (V 2)) := hq1.cell 2
      have c3 : wr.cell? ⟨h, 3, none⟩ = some (.int .i64 (V 3)) := hq1.cell 3
      have K0 := Q0.out
      have d0 : wr.cell? ⟨w.heap.size + 1 + 1, 0, none⟩ = some (.int .i64 0) := K0.cell 0
      have g0 := K0.frozen 0
      have d1 : wr.cell? ⟨w.heap.size + 1 + 1, 1, none⟩ = some (.int .i64 0) := K0.cell 1
      have g1 := K0.frozen 1
      have d2 : wr.cell? ⟨w.heap.size + 1 + 1, 2, none⟩ = some (.int .i64 0) := K0.cell 2
      have g2 := K0.frozen 2
      have d3 : wr.cell? ⟨w.heap.size + 1 + 1, 3, none⟩ = some (.int .i64 0) := K0.cell 3
      have g3 := K0.frozen 3
      clear K0 hq1
      go_wp2_with fail
      refine bodyPost_ret (v := .tuple #[.agg (vArr 4 fun n => .int .i64 (V n)), .int .i64 0]) (results_cell_tmp (a := ⟨w.heap.size + 1 + 1, 0, none⟩) Try.results18 (by rfl) ((Q0.out.put4 rfl (fun n => .int .i64 (V n))).run_load Try.underlying24 rfl tinfo4) rfl) rfl ?_
      exact ⟨rfl, below4 QB.out (by omega) (fun n => .int .i64 (V n))⟩
end Go.Proofs.Ytnelcbbjnpaodaa
