/-
  For every input TopRound returns true, and each argument reads behind the call as it read before. No conditions.
-/
import Derived.Test.YtnelcbbjnpaodaaRows
import Derived.Test.YtnelcbbjnpaodaaG3
import Derived.Test.YtnelcbbjnpaodaaTrn6
import Derived.Test.YtnelcbbjnpaodaaTrn7
import Derived.Test.YtnelcbbjnpaodaaG11
import Derived.Test.YtnelcbbjnpaodaaG13
import Derived.Test.YtnelcbbjnpaodaaG9
import Derived.Test.YtnelcbbjnpaodaaWav4
import Derived.Test.YtnelcbbjnpaodaaA1
namespace Go.Proofs.Ytnelcbbjnpaodaa.topRound
open Go.ChangeShapes Go.WideShapes Go.ChangeAt Go.RowKit
open Go.ChangeMaps (open_string)

theorem arr32 {k : IntKind} {cs : Array Value} {zs : Nat → Int} (hs : cs.size = 32) (h : ∀ i, i < 32 → cs[i]? = some (.int k (zs i))) : cs = iArr k 32 zs := ext4 hs h
theorem tinfoI : (Try.prog.info? 3).map (fun i => (i.zero, i.size, i.bytes)) = some (some (.int .i64 0), 1, 8) := by kernel_rfl
theorem intsOf_snoc (z : Nat → Int) (k : Nat) : intsOf .i64 z k ++ [.int .i64 (z k)] = intsOf .i64 z (k + 1) := by
  unfold intsOf
  rw [List.range_succ, List.map_append]
  rfl

set_option linter.unusedSimpArgs false
theorem twave0 (w : World) : Calls Try.prog 19 #[.agg #[.int .u8 0, .int .u8 0, .int .u8 0, .int .u8 0, .int .u8 0, .int .u8 0, .int .u8 0, .int .u8 0, .int .u8 0, .int .u8 0, .int .u8 0, .int .u8 0, .int .u8 0, .int .u8 0, .int .u8 0, .int .u8 0, .int .u8 0, .int .u8 0, .int .u8 0, .int .u8 0, .int .u8 0, .int .u8 0, .int .u8 0, .int .u8 0, .int .u8 0, .int .u8 0, .int .u8 0, .int .u8 0, .int .u8 0, .int .u8 0, .int .u8 0, .int .u8 0]] w fun e w' => (∃ r2 r3 r4 r5 r6 r7 : Int, e = .returned (.agg #[.int .i64 (-992), .int .i64 0, .int .i64 r2, .int .i64 r3, .int .i64 r4, .int .i64 r5, .int .i64 r6, .int .i64 r7])) ∧ Below w.heap.size w w' := by
  have e : (#[.int .u8 0, .int .u8 0, .int .u8 0, .int .u8 0, .int .u8 0, .int .u8 0, .int .u8 0, .int .u8 0, .int .u8 0, .int .u8 0, .int .u8 0, .int .u8 0, .int .u8 0, .int .u8 0, .int .u8 0, .int .u8 0, .int .u8 0, .int .u8 0, .int .u8 0, .int .u8 0, .int .u8 0, .int .u8 0, .int .u8 0, .int .u8 0, .int .u8 0, .int .u8 0, .int .u8 0, .int .u8 0, .int .u8 0, .int .u8 0, .int .u8 0, .int .u8 0] : Array Value) = iArr .u8 32 fun _ => 0 := by kernel_rfl
  rw [e]
  refine (twave_any (fun _ => 0) (fun _ => by omega) w).mono ?_
  rintro e w' ⟨rfl, hb⟩
  have l40 : bns (fsm (wrw fun _ => 0) 32) 0 = -992 := by decide +kernel
  have l41 : bns (fsm (wrw fun _ => 0) 32) 1 = 0 := by decide +kernel
  refine ⟨⟨bns (fsm (wrw fun _ => 0) 32) 2, bns (fsm (wrw fun _ => 0) 32) 3, bns (fsm (wrw fun _ => 0) 32) 4, bns (fsm (wrw fun _ => 0) 32) 5, bns (fsm (wrw fun _ => 0) 32) 6, bns (fsm (wrw fun _ => 0) 32) 7, ?_⟩, hb⟩
  rw [vArr_eight]
  unfold bnV
  rw [l40, l41]
theorem ix0 (r0 r1 r2 r3 r4 r5 r6 r7 : Int) (w : World) : (Instr.index 29 (.agg #[.int .i64 r0, .int .i64 r1, .int .i64 r2, .int .i64 r3, .int .i64 r4, .int .i64 r5, .int .i64 r6, .int .i64 r7]) (.int .i64 0)).run Try.prog w = .ok (.agg #[.int .i64 r0, .int .i64 r1]) w :=
  ix_pair (fun j => #[Value.int .i64 r0, .int .i64 r1, .int .i64 r2, .int .i64 r3, .int .i64 r4, .int .i64 r5, .int .i64 r6, .int .i64 r7][j]?.getD undef) 0 (by decide) w
theorem teq2 (a b : Int) (w : World) : (Op.equalIn 10000 28 (.agg #[.int .i64 a, .int .i64 b]) (.agg #[.int .i64 a, .int .i64 b])).run Try.prog w = .ok true w := by
  have := run_eql_ints (n := 2) Try.underlying28 Try.underlying3 (by kernel_rfl) (by kernel_rfl) 9998 (fun j => if j = 0 then a else b) (fun j => if j = 0 then a else b) w
  simp only [beq_self_eq_true, List.all_eq_true, List.mem_range, implies_true] at this
  refine Eq.trans ?_ (this.trans (by simp))
  rfl
theorem own_kp {w w' : World} {B e size n : Nat} {v : Value} {xs : List Value} {L : List Nat} (h : w.ownsRow B e size v n xs) (k : Kp L w w') (hL : ∀ x ∈ L, x < B) : w'.ownsRow B e size v n xs := by
  refine ⟨h.1, ?_⟩
  rcases h.2 with ⟨rfl, h0⟩ | ⟨g, cap, cur, rfl, hg, hh, hnc, hcm, hcs, hcur⟩
  · exact Or.inl ⟨rfl, h0⟩
  · refine Or.inr ⟨g, cap, cur, rfl, hg, ?_, hnc, hcm, hcs, hcur⟩
    have hl : g < w.heap.size := by
      rcases Nat.lt_or_ge g w.heap.size with h | h
      · exact h
      · rw [Array.getElem?_eq_none h] at hh; cases hh
    rw [k.block g hl fun hx => by have := hL g hx; omega]
    exact hh
theorem kp_grown {L : List Nat} {a w w' : World} {row : Option Nat} (h : Kp L a w) (g : w.grownBy w' row) (hr : ∀ k, row = some k → a.heap.size ≤ k) : Kp L a w' :=
  ⟨g.os.trans h.os, g.tape.trans h.tape, g.output.trans h.output, Nat.le_trans h.size g.size, fun i hi hn => (g.block i (Nat.lt_of_lt_of_le hi h.size) fun e => by have := hr i e.symm; omega).trans (h.block i hi hn)⟩
theorem clevel_v {w : World} {g : Nat} {x : Cw} (h : CW w g x) {v : Int} (e : x.lvl = v) : Calls Try.prog 23 #[.pointer (some ⟨g, 0, none⟩)] w fun e w' => e = .returned (.int .u8 v) ∧ Below w.heap.size w w' := e ▸ clevel_any h
theorem cuntil_v {w : World} {g : Nat} {x : Cw} (h : CW w g x) {v : Int} (e : (x.left : Int) = v) : Calls Try.prog 25 #[.pointer (some ⟨g, 0, none⟩)] w fun e w' => e = .returned (.int .i64 v) ∧ w = w' := e ▸ cuntil_any h
def rdX (z : Nat → Int) : Nat → Cw
  | 0 => Cw.new
  | k + 1 => (rdX z k).wr 6 (z k)
def Plain (z : Nat → Int) (m : Nat) (x : Cw) : Prop := ∀ j, j < m → x.wv j = z j % 32
theorem rdX_inv (z : Nat → Int) : ∀ k, k ≤ 32 → Plain z k (rdX z k) ∧ (rdX z k).pl = k % 32 ∧ (rdX z k).ct = 0 ∧ (rdX z k).ns = false ∧ (rdX z k).left = 4096
  | 0, _ => ⟨fun j hj => absurd hj (Nat.not_lt_zero _), rfl, rfl, rfl, rfl⟩
  | k + 1, hk => by
    obtain ⟨a, b, c, d, e⟩ := rdX_inv z k (by omega)
    have ht : (rdX z k).tell = false := by unfold Cw.tell; rw [c]; kernel_rfl
    have hs : rdX z (k + 1) = { rdX z k with wv := fun i => if i = (rdX z k).pl then z k % 32 else (rdX z k).wv i, pl := ((rdX z k).pl + 1) % 32 } := by
      show (rdX z k).take (z k % 32) = _
      unfold Cw.take
      rw [ht]
      rfl
    rw [hs]
    refine ⟨fun j hj => ?_, ?_, c, d, e⟩
    · dsimp only
      rw [b, Nat.mod_eq_of_lt (show k < 32 by omega)]
      by_cases h : j = k
      · rw [if_pos h, h]
      · rw [if_neg h]; exact a j (by omega)
    · dsimp only
      rw [b]; omega
theorem dn_self (L p : Nat) : dnS L L p = 1 ∧ dnL L L p = p := by
  unfold dnS dnL
  rw [if_neg (Nat.lt_irrefl L), if_neg (Nat.lt_irrefl L), Nat.sub_self, Nat.zero_div, Nat.zero_mod]
  exact ⟨rfl, rfl⟩
theorem go_full {y : Cw} (hc : y.ct = 128) {N : Nat} (hN : y.left = N) : (y.go N).wv = y.wv ∧ (y.go N).pl = (y.pl + 1) % 32 ∧ (y.go N).ct = 128 ∧ (y.go N).ns = y.ns ∧ (y.go N).left = (y.go N).per := by
  subst hN
  have hr : y.runs = true := by unfold Cw.runs Cw.on Cw.tell; rw [hc]; kernel_rfl
  have hp : (y.go y.left).per = y.per := by rw [Cw.go_eq]; rfl
  rw [hp, Cw.go_eq]
  dsimp only
  rw [if_pos hr, if_pos hr, (dn_self _ _).1, (dn_self _ _).2]
  exact ⟨rfl, rfl, hc, rfl, rfl⟩
theorem lvl_wv {y : Cw} (hc : y.ct = 128) (hn : y.ns = false) : y.lvl = y.wv y.pl := by
  have e1 : y.on = true := by unfold Cw.on; rw [hc]; kernel_rfl
  have e2 : y.tell = false := by unfold Cw.tell; rw [hc]; kernel_rfl
  unfold Cw.lvl
  rw [e1, e2, hn]
  simp

set_option linter.unusedVariables false
set_option linter.unusedSimpArgs false
set_option maxRecDepth 100000 in
set_option maxHeartbeats 8000000 in
theorem walk (z : Nat → Int) (wz : ∀ i, (Lit.int .u8 (z i)).wf = true) (f : Int) (wf : (Lit.int .u16 f).wf = true) (W : World) :
    Calls Try.prog 8 #[.agg (iArr .u8 32 z), .int .u16 f] W fun e w' => e = .returned (.bool true) ∧ Below W.heap.size W w' := by
  obtain ⟨f0, f1⟩ := bounds_u16 wf
  have hf1 : f.tmod 256 = f % 256 := Int.tmod_eq_emod_of_nonneg f0
  have hf2 : IntKind.u8.wrap (f % 256) = f % 256 := IntWalk.u8_in _ (by omega)
  have hf3 : IntKind.u16.wrap (f.tdiv 256) = f / 256 := by rw [Int.tdiv_eq_ediv_of_nonneg f0]; exact IntWalk.u16_in _ (by omega)
  have hf4 : IntKind.u8.wrap (f / 256) = f / 256 := IntWalk.u8_in _ (by omega)
  have HZ : Hid (∀ i, 0 ≤ z i ∧ z i ≤ 255) := Lib.hid fun i => bounds_u8 (wz i)
  have HCL : Hid (∀ (w' : World) (gb k : Nat), Blk w' gb 39 (iArr .u8 32 z) → k < 32 → w'.cell? ⟨gb, k, none⟩ = some (.int .u8 (z k))) := Lib.hid fun w' gb k h hk => by rw [h.cell k, iArr_at .u8 32 z k hk]
  have HBIT : Hid (bitB 1 0 = true) := Lib.hid (by kernel_rfl)
  obtain ⟨V, hV⟩ : ∃ V, fsm (wrw z) 32 = V := ⟨_, rfl⟩
  obtain ⟨e0, v0⟩ := wrw_ok z
  have E0 := Lib.hid e0
  have HB8 : Hid (vArr 8 (bnV (fldV (wrw z) 32)) = #[.int .i64 (bns V 0), .int .i64 (bns V 1), .int .i64 (bns V 2), .int .i64 (bns V 3), .int .i64 (bns V 4), .int .i64 (bns V 5), .int .i64 (bns V 6), .int .i64 (bns V 7)]) := Lib.hid ((vArr_congr (f' := bnV V) fun j _ => by unfold bnV; rw [bns_congr fun i _ => (v0 i).trans (by rw [hV])]).trans rfl)
  have HV8 : Hid (vArr 8 (bnV (fsm (wrw z) 32)) = #[.int .i64 (bns V 0), .int .i64 (bns V 1), .int .i64 (bns V 2), .int .i64 (bns V 3), .int .i64 (bns V 4), .int .i64 (bns V 5), .int .i64 (bns V 6), .int .i64 (bns V 7)]) := Lib.hid (by rw [hV]; rfl)
  have mq := ix0 (-992) 0
  have me := teq2 (-992) 0
  clear wz wf e0 v0 hV
  go_enter Try.func8, Try.ntmps8
  go_wp2_with fail
  have FB := Lib.hid (Blk.new W 39 (iArr .u8 32 z))
  have HB := Lib.hid ((Below.refl W.heap.size W).alloc (Nat.le_refl _) (.cells (iArr .u8 32 z) 39))
  generalize World.alloc W _ = w0 at *
  refine (bit_any 1 0 _).mono ?_
  rw [HBIT.out]
  rintro e w' ⟨rfl, rfl⟩
  obtain ⟨gl, hgl⟩ : ∃ h, W.heap.size = h := ⟨_, rfl⟩
  rw [hgl] at FB
  go_upto_region 3 with fail
  have HGL := Lib.hid hgl
  clear hgl
  go_wp2_with fail
  refine (cnew_any _).mono ?_
  rintro e w2 ⟨g, rfl, hg, h2, b2⟩
  have hgb : gl < g := Nat.lt_of_lt_of_le FB.out.lt hg
  have HB2 := Lib.hid (HB.out.trans (b2.mono HB.out.size))
  have FB2 := Lib.hid (FB.out.below b2 FB.out.lt)
  have H2 := Lib.hid h2
  clear h2 b2 HB FB hg
  go_wp2_with fail
  refine (twave0 _).mono ?_
  rintro e w3 ⟨⟨r2, r3, r4, r5, r6, r7, rfl⟩, b3⟩
  have H2 := Lib.hid (H2.out.keep b3 H2.out.lt)
  have HB2 := Lib.hid (HB2.out.trans (b3.mono HB2.out.size))
  have FB2 := Lib.hid (FB2.out.below b3 FB2.out.lt)
  clear b3
  have mq2 := mq r2 r3 r4 r5 r6 r7
  clear mq
  go_wp2_with fail
  clear mq2 me
  go_loopw [6] (fun i wr => ∃ k : Nat, k ≤ 32 ∧ i = .int .i64 k ∧ CW wr g (rdX z k) ∧ Below W.heap.size W wr ∧ Blk wr gl 39 (iArr .u8 32 z)) (fun i _ => 32 - (intOf i).toNat)
  case atStart => exact ⟨0, Nat.zero_le _, rfl, H2.out, HB2.out, FB2.out⟩
  case round =>
    obtain ⟨k, hk, rfl, hC, hB, hF⟩ := hrel
    have HC := Lib.hid hC
    have HB := Lib.hid hB
    have FB := Lib.hid hF
    clear hC hB hF H2 HB2 FB2
    by_cases hlt : k < 32
    · have i0 : (0 : Int) ≤ (k : Int) := by omega
      have i1 : (k : Int) < 32 := by omega
      have hc := HCL.out _ _ k FB.out hlt
      obtain ⟨b0, b1⟩ := HZ.out k
      go_wp2_with fail
      refine (cwrite_any HC.out 6 (z k) b0 b1).mono ?_
      rintro e w3 ⟨rfl, h3, k3⟩
      have H3 : Hid (CW w3 g (rdX z (k + 1))) := Lib.hid h3
      have HB3 := Lib.hid (k3.onto HB.out HB.out.size (by have := HGL.out; simp; omega))
      have FB3 := Lib.hid (FB.out.kp k3 (by simp; omega))
      clear h3 k3 HC HB FB hc b0 b1
      go_wp2_with fail
      go_roundw
      case rel => exact ⟨k + 1, by omega, by go_num, H3.out, HB3.out, FB3.out⟩
      case measure => simp [intOf]; omega
    · obtain rfl : k = 32 := by omega
      obtain ⟨r1, r2, r3, r4, r5⟩ := rdX_inv z 32 (by omega)
      generalize rdX z 32 = x at *
      go_wp2_with fail
      refine (cwrite_any HC.out 2 (f % 256) (by omega) (by omega)).mono ?_
      rintro e w3 ⟨rfl, h3, k3⟩
      have H3 := Lib.hid h3
      have HB3 := Lib.hid (k3.onto HB.out HB.out.size (by have := HGL.out; simp; omega))
      have FB3 := Lib.hid (FB.out.kp k3 (by simp; omega))
      clear h3 k3 HC HB FB
      go_wp2_with fail
      refine (cwrite_any H3.out 3 (f / 256) (by omega) (by omega)).mono ?_
      rintro e w4 ⟨rfl, h4, k4⟩
      have H4 := Lib.hid h4
      have HB4 := Lib.hid (k4.onto HB3.out HB3.out.size (by have := HGL.out; simp; omega))
      have FB4 := Lib.hid (FB3.out.kp k4 (by simp; omega))
      clear h4 k4 H3 HB3 FB3
      go_wp2_with fail
      refine (cwrite_any H4.out 4 128 (by decide) (by decide)).mono ?_
      rintro e w5 ⟨rfl, h5, k5⟩
      obtain ⟨X, hX⟩ : ∃ X, ((x.wr 2 (f % 256)).wr 3 (f / 256)).wr 4 128 = X := ⟨_, rfl⟩
      rw [hX] at h5
      have x1 : Plain z 32 X := by rw [← hX]; exact r1
      have x2 : X.pl = 0 := by rw [← hX]; exact r2
      have x3 : X.ct = 128 := by rw [← hX]; rfl
      have x4 : X.ns = false := by rw [← hX]; exact r4
      have x5 : X.left = 4096 := by rw [← hX]; exact r5
      have H5 := Lib.hid h5
      have HB5 := Lib.hid (k5.onto HB4.out HB4.out.size (by have := HGL.out; simp; omega))
      have FB5 := Lib.hid (FB4.out.kp k5 (by simp; omega))
      have HX : Hid (Plain z 32 X ∧ X.pl = 0 ∧ X.ct = 128 ∧ X.ns = false ∧ X.left ≤ 4096) := Lib.hid ⟨x1, x2, x3, x4, by omega⟩
      clear h5 k5 H4 HB4 FB4 hX r1 r2 r3 r4 r5 x1 x2 x3 x4 x5
      obtain ⟨S0, hS0⟩ : ∃ s, w5.heap.size = s := ⟨_, rfl⟩
      have hgs : g < S0 := by rw [← hS0]; exact H5.out.lt
      have hKp : Kp [g] w5 w5 := Kp.refl _ _
      have HKP := Lib.hid hKp
      have HS0 := Lib.hid hS0
      clear hKp hS0
      go_wp2_with fail
      go_loopw [7, 8] (fun v i wr => ∃ k : Nat, k ≤ 32 ∧ i = .int .i64 k ∧ wr.ownsRow S0 3 1 v k (intsOf .i64 (wrw z) k) ∧ (∃ y, CW wr g y ∧ Plain z 32 y ∧ y.pl = k % 32 ∧ y.ct = 128 ∧ y.ns = false ∧ y.left ≤ 4096) ∧ Kp [g] w5 wr) (fun _ i _ => 32 - (intOf i).toNat)
      case atStart => exact ⟨0, Nat.zero_le _, rfl, ⟨rfl, Or.inl ⟨rfl, rfl⟩⟩, ⟨X, H5.out, HX.out.1, HX.out.2.1, HX.out.2.2⟩, HKP.out⟩
      case round =>
        obtain ⟨k, hk, rfl, hown, ⟨y, hC, y1, y2, y3, y4, y5⟩, hKp⟩ := hrel
        have HO := Lib.hid hown
        have HC := Lib.hid hC
        have HK := Lib.hid hKp
        clear hC hown hKp H5 HKP
        by_cases hlt : k < 32
        · have i0 : (0 : Int) ≤ (k : Int) := by omega
          have i1 : (k : Int) < 32 := by omega
          obtain ⟨b0, b1⟩ := HZ.out k
          obtain ⟨v, hv⟩ : ∃ v, z k % 32 = v := ⟨_, rfl⟩
          have hw : wrw z k = 2 * v - 31 := by unfold wrw; rw [hv]
          have v0 : 0 ≤ v := by omega
          have v1 : v ≤ 31 := by omega
          have HVL : Hid (y.lvl = v) := Lib.hid (by rw [lvl_wv y3 y4, y2, Nat.mod_eq_of_lt hlt, y1 k hlt]; exact hv)
          obtain ⟨q, hq⟩ : ∃ q : Nat, y.left = q := ⟨_, rfl⟩
          have HQ2 : Hid ((y.left : Int) = q) := Lib.hid (by rw [hq])
          have hq1 : q ≤ 4096 := hq ▸ y5
          obtain ⟨g1, g2, g3, g4, g5⟩ := go_full y3 hq
          have HY : Hid (Plain z 32 (y.go q) ∧ (y.go q).pl = (k + 1) % 32 ∧ (y.go q).ct = 128 ∧ (y.go q).ns = false ∧ (y.go q).left ≤ 4096) := Lib.hid ⟨fun j hj => by rw [g1]; exact y1 j hj, by rw [g2, y2]; omega, g3, g4.trans y4, by rw [g5]; exact (y.go q).per_bd.2⟩
          have HW := Lib.hid hw
          clear y1 y2 y3 y4 y5 hv hq g1 g2 g3 g4 g5 hw b0 b1
          go_wp2_with fail
          refine (clevel_v HC.out HVL.out).mono ?_
          rintro e w7 ⟨rfl, b7⟩
          have HC7 := Lib.hid (HC.out.keep b7 HC.out.lt)
          have HK7 := Lib.hid (HK.out.trans (Kp.of_below (L := []) b7) (by simp))
          have hown7 := own_kp HO.out (Kp.of_below (L := []) b7) (by simp)
          have hSB : S0 ≤ w7.heap.size := by have := HK7.out.size; rw [HS0.out] at this; exact this
          obtain ⟨v', w', hrun, o2, g2⟩ := more_new (P := Try.prog) (t := 22) (e := 3) (ty := 22) (size := 1) (bytes := 8) (z := .int .i64 0) (m := 1) (c := 1) Try.underlying22 tinfoI rfl (by decide) hown7 #[.int .i64 (2 * v - 31)] rfl (fun u hu => by simp at hu; subst hu; rfl) rfl (by omega) (by omega) hSB
          rw [← HW.out, show (#[Value.int .i64 (wrw z k)] : Array Value).toList = [.int .i64 (wrw z k)] from rfl, intsOf_snoc] at o2
          have hk8 : Kp [g] w5 w' := kp_grown (HK7.out.alloc (.cells #[.int .i64 (2 * v - 31)] 3)) g2 (fun j h => by rw [HS0.out]; exact (hown7.lt j h).1)
          have hc8 : CW w' g y := ⟨Blk.grown (HC7.out.1.alloc _) g2 (fun e => by have := (hown7.lt g e.symm).1; omega), HC7.out.2⟩
          have O2 := Lib.hid o2
          have HK8 := Lib.hid hk8
          have HC8 := Lib.hid hc8
          clear b7 HC HK HC7 HK7 hown7 hSB o2 g2 hk8 hc8 HO
          go_wp2_with (at_builtin; refine wpList_append_run rfl (.tmp 48) (.tmp 54) 22 rfl rfl rfl hrun ?_)
          clear hrun
          refine (cuntil_v HC8.out HQ2.out).mono ?_
          rintro e w'' ⟨rfl, rfl⟩
          go_wp2_with fail
          refine (cgo_any HC8.out q (by omega)).mono ?_
          rintro e w10 ⟨rfl, h10, k10⟩
          have H10 := Lib.hid h10
          have HK10 := Lib.hid (HK8.out.trans k10 (by simp))
          have O10 := Lib.hid (own_kp O2.out k10 (by simp; omega))
          clear h10 k10 HC8 HK8 O2
          go_wp2_with fail
          go_roundw
          case rel => exact ⟨k + 1, by omega, by go_num, O10.out, ⟨_, H10.out, HY.out⟩, HK10.out⟩
          case measure => simp [intOf]; omega
        · obtain rfl : k = 32 := by omega
          obtain ⟨A, cap, rfl, _, _, hIR, _⟩ := own_row HO.out (fun i _ => WalkArith.wf_i64 (by have := wrw_bd z i; omega))
          have HIR := Lib.hid hIR
          have QB := Lib.hid (HK.out.onto HB5.out HB5.out.size (by have := HGL.out; simp; omega))
          have FB := Lib.hid (FB5.out.kp HK.out (by simp; omega))
          clear hIR HO HK HC HB5 FB5 y1 y2 y3 y4 y5
          go_wp2_with fail
          refine (tof_any (z := wrw z) (n := 32) (c := cap) HIR.out (by decide)).mono ?_
          rw [E0.out, HB8.out]
          rintro e w21 ⟨rfl, b21⟩
          have KFB : Blk (w21.alloc (.cells #[.int .i64 (bns V 0), .int .i64 (bns V 1), .int .i64 (bns V 2), .int .i64 (bns V 3), .int .i64 (bns V 4), .int .i64 (bns V 5), .int .i64 (bns V 6), .int .i64 (bns V 7)] 29)) gl 39 (iArr .u8 32 z) := (FB.out.below b21 FB.out.lt).alloc _
          have KN : Blk (w21.alloc (.cells #[.int .i64 (bns V 0), .int .i64 (bns V 1), .int .i64 (bns V 2), .int .i64 (bns V 3), .int .i64 (bns V 4), .int .i64 (bns V 5), .int .i64 (bns V 6), .int .i64 (bns V 7)] 29)) w21.heap.size 29 #[.int .i64 (bns V 0), .int .i64 (bns V 1), .int .i64 (bns V 2), .int .i64 (bns V 3), .int .i64 (bns V 4), .int .i64 (bns V 5), .int .i64 (bns V 6), .int .i64 (bns V 7)] := Blk.new w21 _ _
          have KB : Below W.heap.size W (w21.alloc (.cells #[.int .i64 (bns V 0), .int .i64 (bns V 1), .int .i64 (bns V 2), .int .i64 (bns V 3), .int .i64 (bns V 4), .int .i64 (bns V 5), .int .i64 (bns V 6), .int .i64 (bns V 7)] 29)) := (QB.out.trans (b21.mono QB.out.size)).alloc (Nat.le_trans QB.out.size b21.size) _
          obtain ⟨gb, hgb⟩ : ∃ h, w21.heap.size = h := ⟨_, rfl⟩
          rw [hgb] at KN
          have FB := Lib.hid KFB
          have Hgb := Lib.hid KN
          have QB := Lib.hid KB
          clear KFB KN KB b21
          go_upto_region 20 with fail
          generalize World.alloc _ _ = v21 at *
          clear hgb
          have hL : Hid ((Try.prog.info? 39).map (·.size) = some (iArr .u8 32 z).size) := Lib.hid (by rw [iArr_size]; exact tinfoL)
          have q1 : ∀ w, (Op.equalIn 10000 29 (.agg #[.int .i64 (bns V 0), .int .i64 (bns V 1), .int .i64 (bns V 2), .int .i64 (bns V 3), .int .i64 (bns V 4), .int .i64 (bns V 5), .int .i64 (bns V 6), .int .i64 (bns V 7)]) (.agg #[.int .i64 (bns V 0), .int .i64 (bns V 1), .int .i64 (bns V 2), .int .i64 (bns V 3), .int .i64 (bns V 4), .int .i64 (bns V 5), .int .i64 (bns V 6), .int .i64 (bns V 7)])).run Try.prog w = .ok true w := fun w => by rw [teq8 (bns V) (bns V) w]; simp
          refine rg_begin (S := fun w' => Blk w' gl 39 (iArr .u8 32 z) ∧ Blk w' gb 29 #[.int .i64 (bns V 0), .int .i64 (bns V 1), .int .i64 (bns V 2), .int .i64 (bns V 3), .int .i64 (bns V 4), .int .i64 (bns V 5), .int .i64 (bns V 6), .int .i64 (bns V 7)]) 9 #[false, false, false, false, false, false, false, false, false] (by kernel_rfl) (by kernel_rfl) (by kernel_rfl) ?_ (fun hHeld => ?_)
          · exact ⟨FB.out.drew_, Hgb.out.drew_⟩
          refine rg_take (i := 0) (d := some 65) (l := #[true, false, false, false, false, false, false, false, false]) (fuel := 8) (v := ?_) rfl (by kernel_rfl) (by kernel_rfl) (by kernel_rfl) (by kernel_rfl) (by kernel_rfl) (fun _ _ _ h => h) (by kernel_rfl) ?_ (by assumption) ?_
          rotate_left 1
          · (intro wS hSw; (try dsimp only at hSw); go_simp; try with_reducible rfl)
          try simp only [Act.put, List.setIfInBounds_toArray, List.set_cons_zero, List.set_cons_succ]
          refine rg_take (i := 1) (d := some 66) (l := #[true, true, false, false, false, false, false, false, false]) (fuel := 7) (v := ?_) rfl (by kernel_rfl) (by kernel_rfl) (by kernel_rfl) (by kernel_rfl) (by kernel_rfl) (fun _ _ _ h => h) (by kernel_rfl) ?_ (by assumption) ?_
          rotate_left 1
          · (intro wS hSw; (try dsimp only at hSw); go_simp; try with_reducible rfl)
          try simp only [Act.put, List.setIfInBounds_toArray, List.set_cons_zero, List.set_cons_succ]
          refine rg_take (i := 2) (d := some 67) (l := #[true, true, true, false, false, false, false, false, false]) (fuel := 6) (v := ?_) rfl (by kernel_rfl) (by kernel_rfl) (by kernel_rfl) (by kernel_rfl) (by kernel_rfl) (fun _ _ _ h => h) (by kernel_rfl) ?_ (by assumption) ?_
          rotate_left 1
          · (intro wS hSw; (try dsimp only at hSw); go_simp; try with_reducible rfl)
          try simp only [Act.put, List.setIfInBounds_toArray, List.set_cons_zero, List.set_cons_succ]
          refine rg_take (i := 3) (d := some 68) (l := #[true, true, true, true, false, false, false, false, false]) (fuel := 5) (v := .agg #[.int .i64 (bns V 0), .int .i64 (bns V 1), .int .i64 (bns V 2), .int .i64 (bns V 3), .int .i64 (bns V 4), .int .i64 (bns V 5), .int .i64 (bns V 6), .int .i64 (bns V 7)]) rfl (by kernel_rfl) (by kernel_rfl) (by kernel_rfl) (by kernel_rfl) (by kernel_rfl) (fun _ _ _ h => h) (by kernel_rfl) ?_ (by assumption) ?_
          · (intro wS hSw; (try dsimp only at hSw); exact exec_load_row 29 (.tmp 9) rfl gb rfl 29 #[.int .i64 (bns V 0), .int .i64 (bns V 1), .int .i64 (bns V 2), .int .i64 (bns V 3), .int .i64 (bns V 4), .int .i64 (bns V 5), .int .i64 (bns V 6), .int .i64 (bns V 7)] (0, 0) _ hSw.2 Try.underlying29 rfl (by kernel_rfl))
          try simp only [Act.put, List.setIfInBounds_toArray, List.set_cons_zero, List.set_cons_succ]
          refine rg_take (i := 4) (d := some 69) (l := #[true, true, true, true, true, false, false, false, false]) (fuel := 4) (v := .agg (iArr .u8 32 z)) rfl (by kernel_rfl) (by kernel_rfl) (by kernel_rfl) (by kernel_rfl) (by kernel_rfl) (fun _ _ _ h => h) (by kernel_rfl) ?_ (by assumption) ?_
          · (intro wS hSw; (try dsimp only at hSw); exact exec_load_row 39 (.tmp 2) rfl gl rfl 39 (iArr .u8 32 z) (0, 0) _ hSw.1 Try.underlying39 rfl hL.out)
          try simp only [Act.put, List.setIfInBounds_toArray, List.set_cons_zero, List.set_cons_succ]
          refine rg_next (i := 5) (l := #[true, true, true, true, true, true, false, false, false]) (fuel := 3) (by kernel_rfl) rfl (by kernel_rfl) (by kernel_rfl) (fun K hK => ?_)
          go_simp
          (go_at_call 19)
          refine (twave_any z HZ.out _).mono ?_
          rw [HV8.out]
          rintro e w8 ⟨rfl, b8⟩
          have FB := Lib.hid (FB.out.drew_.below b8 FB.out.lt)
          have Hgb := Lib.hid (Hgb.out.drew_.below b8 Hgb.out.lt)
          have QB := Lib.hid (QB.out.drew.trans (b8.mono QB.out.size))
          clear b8
          first | (refine hK.out _ _ ?_ (fun hHeld => ?_)) | (go_wp2_with fail; refine hK.out _ _ ?_ (fun hHeld => ?_))
          · (try dsimp only); exact ⟨FB.out, Hgb.out⟩
          clear hK K
          try simp only [Act.put, List.setIfInBounds_toArray, List.set_cons_zero, List.set_cons_succ]
          refine rg_take (i := 6) (d := some 71) (l := #[true, true, true, true, true, true, true, false, false]) (fuel := 2) (v := ?_) rfl (by kernel_rfl) (by kernel_rfl) (by kernel_rfl) (by kernel_rfl) (by kernel_rfl) (fun _ _ _ h => h) (by kernel_rfl) ?_ (by assumption) ?_
          rotate_left 1
          · (intro wS hSw; (try dsimp only at hSw); go_simp; try with_reducible rfl)
          try simp only [Act.put, List.setIfInBounds_toArray, List.set_cons_zero, List.set_cons_succ]
          refine rg_take (i := 7) (d := some 72) (l := #[true, true, true, true, true, true, true, true, false]) (fuel := 1) (v := ?_) rfl (by kernel_rfl) (by kernel_rfl) (by kernel_rfl) (by kernel_rfl) (by kernel_rfl) (fun _ _ _ h => h) (by kernel_rfl) ?_ (by assumption) ?_
          rotate_left 1
          · (intro wS hSw; (try dsimp only at hSw); go_simp; try with_reducible rfl)
          try simp only [Act.put, List.setIfInBounds_toArray, List.set_cons_zero, List.set_cons_succ]
          refine rg_take (i := 8) (d := some 4) (l := #[true, true, true, true, true, true, true, true, true]) (fuel := 0) (v := ?_) rfl (by kernel_rfl) (by kernel_rfl) (by kernel_rfl) (by kernel_rfl) (by kernel_rfl) (fun _ _ _ h => h) (by kernel_rfl) ?_ (by assumption) ?_
          rotate_left 1
          · (intro wS hSw; (try dsimp only at hSw); go_simp; try with_reducible rfl)
          try simp only [Act.put, List.setIfInBounds_toArray, List.set_cons_zero, List.set_cons_succ]
          refine wpAnyH_done (by kernel_rfl) ?_ _
          go_wp2_with fail
          go_ret
          exact ⟨rfl, QB.out⟩

theorem own : ownKnob Try.prog.godebug = none := by kernel_rfl
theorem laidOut : laidOutB Try.prog = true := by kernel_rfl
set_option maxRecDepth 100000 in
theorem lifted (os : Os) (started : os.Started) (H : Type) (enc : TypeId × Value → H) :
    ReturnsInHanded {} Try.checked os 8 .any (Rows.topRoundSpec.pre6 enc Try.prog Try.f8 Rows.topRoundRow.domain false) (Rows.topRoundSpec.post enc Try.prog Try.f8 false true false false) := by
  refine returnsInHanded_of_change (C := Try.checked) own started (by kernel_rfl) Try.func8
    (ChangeSpec.witness6 (enc := enc) (C := Try.checked) false ⟨#[], #[.agg #[.int .u8 0, .int .u8 0, .int .u8 0, .int .u8 0, .int .u8 0, .int .u8 0, .int .u8 0, .int .u8 0, .int .u8 0, .int .u8 0, .int .u8 0, .int .u8 0, .int .u8 0, .int .u8 0, .int .u8 0, .int .u8 0, .int .u8 0, .int .u8 0, .int .u8 0, .int .u8 0, .int .u8 0, .int .u8 0, .int .u8 0, .int .u8 0, .int .u8 0, .int .u8 0, .int .u8 0, .int .u8 0, .int .u8 0, .int .u8 0, .int .u8 0, .int .u8 0], .int .u16 0], []⟩ 8 (by kernel_rfl) (by kernel_rfl) (by kernel_rfl) (by kernel_rfl)) ?_
  intro W base args ds gs before hval0 hW _ _
  have hval : ∀ (j : Nat) t v, Try.f8.params[j]? = some t → args[j]? = some v → Value.okWide Try.prog W .any base t v := hval0
  have hW' := hW
  obtain ⟨p, q, hA0, hV, rfl, _, _⟩ := hW
  have hA : DataW.TrodAll enc Try.prog W 0 (fun _ => true) true Try.f8.params.toList args.toList ds p := hA0
  rw [Try.params8] at hA hval
  obtain ⟨v0, vs0, d0, ds0, p0, q0, hargs, rfl, rfl, h0, r0⟩ := trodAll_cons hA
  obtain ⟨v1, vs1, d1, ds1, p1, q1, rfl, rfl, rfl, h1, r1⟩ := trodAll_cons r0
  obtain ⟨rfl, rfl, rfl⟩ := trodAll_nil r1
  obtain rfl : args = #[v0, v1] := by cases args; simp_all
  obtain ⟨rfl, rfl⟩ := trodVars_none hV
  obtain ⟨cs0, z0, rfl, s0, k0, u0⟩ := array_ints Try.underlying39 Try.underlying5 (by kernel_rfl) (by kernel_rfl) (hval 0 39 v0 rfl rfl) h0
  obtain rfl := arr32 s0 k0
  obtain ⟨a1, rfl, rfl, rfl, w1⟩ := open_int Try.underlying42 (hval 1 42 v1 rfl rfl) h1
  clear hA0 hval0
  refine (walk z0 u0 a1 w1 W).mono fun e W' ⟨he, hg⟩ => ?_
  subst he
  exact ⟨_, rfl, law_post rfl Try.underlying4 laidOut (by kernel_rfl) rfl hW' rfl hg⟩

theorem over : Rows.topRoundRow.holds Try.pinned (OpenSpec.ofChange Rows.topRoundSpec) :=
  OpenClaim.holds_of_wide 8 Try.f8 rfl rfl rfl rfl rfl rfl rfl ⟨rfl, rfl, rfl, rfl, rfl⟩ rfl rfl rfl rfl rfl (by kernel_rfl) Try.func8 (by kernel_rfl)
    (of_decide_eq_true (by kernel_rfl)) (by unfold Func.isWrapper; first | (rw [if_pos (by decide +kernel)]; kernel_rfl) | (rw [if_neg (by decide +kernel)]; exact ⟨rfl, rfl⟩))
    (fun os started H enc _ => lifted os started H enc)

theorem proved : Rows.TopRoundSaid := over
#print axioms proved
end Go.Proofs.Ytnelcbbjnpaodaa.topRound
