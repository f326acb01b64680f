/-
  Texts of these proofs, one behind the other: Ent20, Ent19.
-/
import Derived.Test.YtndhkdcdhpfajaaGreatKED51
import Derived.Test.YtndhkdcdhpfajaaGreatKED53
import Derived.Test.YtndhkdcdhpfajaaGreatKED23
import Derived.Test.YtndhkdcdhpfajaaGreatKED24
import Derived.Test.YtndhkdcdhpfajaaGreatKED33
import Derived.Test.YtndhkdcdhpfajaaGreatKED37
import Derived.Test.YtndhkdcdhpfajaaGreatKED34
namespace Go.Proofs.YtndhkdcdhpfajaaGreat
open Go.RowKit
set_option linter.unusedVariables false
set_option linter.unusedSimpArgs false
set_option maxRecDepth 100000
/-- Blocks of registers, or of a world, are none of a bus. -/
def stW (t : TypeId) : Prop := t = 32 ∨ t = 28
theorem RHp.offS {w : World} {r : Nat} {d : Hd} {J : Rr} {Z : Rz} {x : Hp} (h : RHp w r d J Z x) {u : Nat} {T : TypeId} {cs : Array Value} (hb : Blk w u T cs) (hT : stW T) : u ∉ J.all r := by
 intro hy
 simp only [Rr.all, List.mem_cons, List.not_mem_nil, or_false] at hy
 rcases hT with rfl | rfl
 all_goals
  rcases hy with rfl | rfl | rfl | rfl | rfl | rfl | rfl
  ·exact hb.ne_ h.pg (by decide) rfl
  ·exact hb.ne_ h.tm.1 (by decide) rfl
  ·exact hb.ne_ h.q.1 (by decide) rfl
  ·exact hb.ne_ h.pt.1 (by decide) rfl
  ·exact hb.ne_ h.v (by decide) rfl
  ·exact hb.ne_ h.c (by decide) rfl
  ·exact hb.ne_ h.l (by decide) rfl
section
variable {W w w1 w2 w3 w' : World} {g r : Nat} {d : Hd} {P P' : Bp} {Q : Rbp} {s s' : Bs} {nx nx' : Bool} {t : Value}
theorem RBU.offS (h : RBU W w r d Q s nx) {u : Nat} {T : TypeId} {cs : Array Value} (hb : Blk w u T cs) (hT : stW T) : u ∉ rbL r Q := by
 intro hy
 obtain ⟨C, hC, _⟩ := h.ram
 rcases mem_rbL.1 hy with rfl | rfl | rfl | e | e
 ·rcases hT with rfl | rfl <;> exact hb.ne_ h.blk (by decide) rfl
 ·rcases hT with rfl | rfl <;> exact hb.ne_ hC (by decide) rfl
 ·rcases hT with rfl | rfl <;> exact hb.ne_ h.ck (by decide) rfl
 ·exact h.pg.offS hb hT e
 ·obtain ⟨cs', hc⟩ := h.typed.2 u e
  rcases hT with rfl | rfl <;> exact hb.ne_ hc (by decide) rfl
theorem BU.offS (h : BU w g d P s) {u : Nat} {T : TypeId} {cs : Array Value} (hb : Blk w u T cs) (hT : stW T) : u ∉ bL g P := by
 rcases hT with rfl | rfl <;> exact h.off hb (by decide) (by decide) (by decide) (by decide) (by decide)
/-- Registers are stored beside both. -/
theorem BX.kpS (h : BX W w g d P r Q s nx) {u : Nat} {cs : Array Value} (hb : Blk w u 32 cs) (k : Kp [u] w w') (hu : W.heap.size ≤ u) : BX W w' g d P r Q s nx := by
 refine ⟨h.bu.kp k (fun y hy => ?_) (fun y hy hy2 => ?_), h.rb.kp k (fun y hy hy2 => ?_) (fun y hy => ?_), h.ap, h.yo, h.lo⟩
 ·obtain rfl : y = u := (by simpa using hy)
  exact NB.of hb (by decide) (by decide)
 ·obtain rfl : y = u := (by simpa using hy2)
  exact h.bu.offS hb (.inl rfl) hy
 ·obtain rfl : y = u := (by simpa using hy2)
  exact h.rb.offS hb (.inl rfl) hy
 ·obtain rfl : y = u := (by simpa using hy)
  exact hu
theorem BU.kpS (h : BU w g d P s) {u : Nat} {cs : Array Value} (hb : Blk w u 32 cs) (k : Kp [u] w w') : BU w' g d P s := by
 refine h.kp k (fun y hy => ?_) (fun y hy hy2 => ?_)
 ·obtain rfl : y = u := (by simpa using hy)
  exact NB.of hb (by decide) (by decide)
 ·obtain rfl : y = u := (by simpa using hy2)
  exact h.offS hb (.inl rfl) hy
theorem RBU.kpS (h : RBU W w r d Q s nx) {u : Nat} {cs : Array Value} (hb : Blk w u 32 cs) (k : Kp [u] w w') (hu : W.heap.size ≤ u) : RBU W w' r d Q s nx := by
 refine h.kp k (fun y hy hy2 => ?_) (fun y hy => ?_)
 ·obtain rfl : y = u := (by simpa using hy2)
  exact h.offS hb (.inl rfl) hy
 ·obtain rfl : y = u := (by simpa using hy)
  exact hu
/-- Both did the same, something else being done between. -/
theorem BX.three (h : BX W w g d P r Q s nx) (k1 : Kp (bL g P) w w1) (f1 : ∀ y ∈ bL g P', y ∈ bL g P ∨ w.heap.size ≤ y) (q1 : P'.b = P.b) (hs : w1.heap.size ≤ w3.heap.size) (b3 : BU w3 g d P' s') (l3 : ∀ y ∈ bL g P', y < w1.heap.size) (r3 : RBU W w3 r d Q s nx)
  (h2 : RBU W w2 r d { Q with tr := t } s' nx') (k2 : Kp (rbL r Q) w3 w2) (f2 : ∀ y ∈ rbL r { Q with tr := t }, y ∈ rbL r Q ∨ w3.heap.size ≤ y) : BX W w2 g d P' r { Q with tr := t } s' nx' := by
 have hlt := h.rb.lt
 have ap1 : ∀ y ∈ bL g P', y ∉ rbL r Q := fun y hy hy2 => by
  rcases f1 y hy with e | e
  ·exact h.ap y e hy2
  ·have := hlt y hy2; omega
 have yo1 : ∀ u ∈ [g, P'.b.v, P'.b.c, P'.b.p], u ≤ Q.m := by rw [q1]; exact h.yo
 refine ⟨b3.kpx k2 (r3.nbx yo1) ap1, h2, fun y hy hy2 => ?_, yo1, fun y hy => ?_⟩
 ·rcases f2 y hy2 with e | e
  ·exact ap1 y hy e
  ·have := l3 y hy; omega
 ·rcases f1 y hy with e | e
  ·exact h.lo y e
  ·exact Nat.le_trans h.rb.old.size e
end
theorem entP_ok {r : Nat → Int} (hr : StOk r) (k : Nat) (z : Int) (z0 : 0 ≤ z) (z1 : z ≤ 65535) : StOk (entP k r z) := fun i hi => by
 have h := hr i hi
 by_cases hk : (k : Int) < 1 ∨ 5 < (k : Int)
 ·have e : entP k r z = r := if_pos hk
  rw [e]; exact h
 ·have e : entP k r z i = if i = 3 then (r 3 - 3) % 256 else if i = 4 then flS (flS (r 4) 4 true) 56 false else if i = 5 then z else if i = 13 ∧ (k : Int) = 1 then 0 else if i = 15 ∧ (k : Int) = 1 then 0 else r i := by unfold entP; rw [if_neg hk]
  rw [e]
  by_cases h3 : i = 3
  ·subst h3; rw [if_pos rfl, show mostP 3 = 255 from rfl]; omega
  rw [if_neg h3]
  by_cases h4 : i = 4
  ·subst h4
   rw [if_pos rfl, show mostP 4 = 255 from rfl, show flS (flS (r 4) 4 true) 56 false = bits .andNot .u8 (flS (r 4) 4 true) 56 from rfl]
   exact bits_byte _ _ _
  rw [if_neg h4]
  by_cases h5 : i = 5
  ·subst h5; rw [if_pos rfl, show mostP 5 = 65535 from rfl]; exact ⟨z0, z1⟩
  rw [if_neg h5]
  by_cases h13 : i = 13 ∧ (k : Int) = 1
  ·rw [if_pos h13]; obtain ⟨rfl, _⟩ := h13; rw [show mostP 13 = 255 from rfl]; omega
  rw [if_neg h13]
  by_cases h15 : i = 15 ∧ (k : Int) = 1
  ·rw [if_pos h15]; obtain ⟨rfl, _⟩ := h15; rw [show mostP 15 = 1 from rfl]; omega
  rw [if_neg h15]
  exact h
theorem wordI_bd (a b : Int) : 0 ≤ wordI a b ∧ wordI a b ≤ 65535 := bounds_u16 (wf_bits _ .u16 _ _)
theorem est_neq_same (r : Nat → Int) (W : World) : (binOp .neq 32 (.agg (stA r)) (.agg (stA r))).run Tryz.prog W = .ok (.bool false) W := by
 have hp := est_pages r
 rw [run_neq_struct, run_equalIn_struct]
 ·unfold stA
  go_simp
  done
 ·kernel_rfl
 ·kernel_rfl
theorem eexec_neq {o : Oper} {ρ : Operand → Value} {w : World} {x y : Operand} (r : Nat → Int) (ho : o.op = .binOp .neq 32 x y 32) (hx : ρ x = .agg (stA r)) (hy : ρ y = .agg (stA r)) : (execOp ρ o).run Tryz.prog w = .ok (.value (.bool false)) w := by
 have hg : (eqGuard .neq 32 x y (.agg (stA r)) (.agg (stA r))).run Tryz.prog w = .ok () w := run_eqGuard_agg w .neq 32 x y _ _ (by kernel_rfl)
 have he := est_neq_same r w
 unfold execOp
 simp only [ho, hx, hy, Sem.run_bind, hg, he, Result.andThen_ok, Sem.run_pure]
set_option maxHeartbeats 8000000 in
theorem rdo_no (b : Value) (k : Nat) (r : Nat → Int) (w : World) (hk : ¬ (1 ≤ k ∧ k ≤ 5)) : Calls Tryz.prog 14 #[b, .agg (stA r), .int .u8 k] w fun e w' => e = .returned (.agg (stA r)) ∧ Below w.heap.size w w' := by
 have h8 : (Tryz.prog.info? 32).map (·.size) = some (stA r).size := by rw [stA_size]; exact size_state
 have H8 := Lib.hid h8
 have hB0 : Below w.heap.size w ((w.alloc (.cells (stA r) 32)).alloc (.cells #[.int .u8 0, .int .u8 0, .int .u8 0, .int .u8 0, .int .u8 0, .int .u16 0, .int .u8 0, .int .u8 0, .int .u8 0, .int .u8 0, .int .u8 0, .int .u8 0, .int .u8 0, .int .u8 0, .int .u8 0, .bool false] 32)) := ((Below.refl _ w).alloc (Nat.le_refl _) _).alloc (by simp) _
 have k0 : Blk ((w.alloc (.cells (stA r) 32)).alloc (.cells #[.int .u8 0, .int .u8 0, .int .u8 0, .int .u8 0, .int .u8 0, .int .u16 0, .int .u8 0, .int .u8 0, .int .u8 0, .int .u8 0, .int .u8 0, .int .u8 0, .int .u8 0, .int .u8 0, .int .u8 0, .bool false] 32)) w.heap.size 32 (stA r) := (Blk.new w _ _).alloc _
 have k1 : Blk ((w.alloc (.cells (stA r) 32)).alloc (.cells #[.int .u8 0, .int .u8 0, .int .u8 0, .int .u8 0, .int .u8 0, .int .u16 0, .int .u8 0, .int .u8 0, .int .u8 0, .int .u8 0, .int .u8 0, .int .u8 0, .int .u8 0, .int .u8 0, .int .u8 0, .bool false] 32)) (w.heap.size + 1) 32 #[.int .u8 0, .int .u8 0, .int .u8 0, .int .u8 0, .int .u8 0, .int .u16 0, .int .u8 0, .int .u8 0, .int .u8 0, .int .u8 0, .int .u8 0, .int .u8 0, .int .u8 0, .int .u8 0, .int .u8 0, .bool false] := by
  have := Blk.new (w.alloc (.cells (stA r) 32)) 32 #[.int .u8 0, .int .u8 0, .int .u8 0, .int .u8 0, .int .u8 0, .int .u16 0, .int .u8 0, .int .u8 0, .int .u8 0, .int .u8 0, .int .u8 0, .int .u8 0, .int .u8 0, .int .u8 0, .int .u8 0, .bool false]
  simpa using this
 have HB0 := Lib.hid hB0
 have K0 := Lib.hid k0
 have K1 := Lib.hid k1
 clear h8 hB0 k0 k1
 go_enter Tryz.func14, Tryz.ntmps14
 go_upto_region 1 with fail
 generalize ((w.alloc (.cells (stA r) 32)).alloc (.cells #[.int .u8 0, .int .u8 0, .int .u8 0, .int .u8 0, .int .u8 0, .int .u16 0, .int .u8 0, .int .u8 0, .int .u8 0, .int .u8 0, .int .u8 0, .int .u8 0, .int .u8 0, .int .u8 0, .int .u8 0, .bool false] 32)) = w1 at *
 have kk0 := K0.out
 go_upto_region 2 with (first
  | (refine wpList_load_row rfl 32 (.tmp 4) rfl w.heap.size (by rfl) 32 (stA r) (0, 0) _ kk0 Tryz.underlying32 rfl H8.out ?_)
  | (go_at_call 53; refine (rplan_no k r hk _).mono ?_; rintro e w2 ⟨rfl, hb⟩))
 have K2 := Lib.hid (K0.out.below hb K0.out.lt)
 have K3 := Lib.hid (K1.out.below hb K1.out.lt)
 have HB2 := Lib.hid (HB0.out.trans (hb.mono HB0.out.size))
 clear kk0 hb K0 K1 HB0
 have kk2 := K2.out
 have hst := K3.out.run_store (P := Tryz.prog) (stA r) rfl (stA_one _)
 have HD := Lib.hid ((K3.out.row (stA r)).run_load (P := Tryz.prog) Tryz.underlying32 rfl size_state)
 have B5 := Lib.hid (below_setRow HB2.out (show w.heap.size ≤ w.heap.size + 1 by omega) (stA r))
 have hsR := stA_size r
 go_wp2_with (refine wpList_load_row rfl 32 (.tmp 4) rfl w.heap.size (by rfl) 32 (stA r) (0, 0) _ kk2 Tryz.underlying32 rfl H8.out ?_)
 (try simp only [Exit.inBlock, Exit.then])
 refine bodyPost_ret (results_cell (a := ⟨w.heap.size + 1, 0, none⟩) Tryz.results14 (by rfl) HD.out) rfl ?_
 exact ⟨rfl, B5.out⟩
end Go.Proofs.YtndhkdcdhpfajaaGreat
namespace Go.Proofs.YtndhkdcdhpfajaaGreat
open Go.RowKit Go.Shelf
set_option linter.unusedVariables false
set_option linter.unusedSimpArgs false
attribute [local go_sem] Oper.semAt_some
set_option maxRecDepth 100000 in
set_option maxHeartbeats 64000000 in
theorem enterdoes_walk {W : World} (rA : Option Addr) (rn rc : Nat) (rz : Nat → Int) (hrn : rn ≤ rc) (hrc : rc ≤ 140737488355328) (RR : IRow W .u8 rA rn rz) (RN : rA = none → rn = 0 ∧ rc = 0)
  (mA : Option Addr) (mn mc : Nat) (ps : Nat → Pc) (hmn : mn ≤ mc) (hmc : mc ≤ maxLen) (RM : PRow W mA mn ps)
  (p q s : Fz) (P : FzOk W p) (Q : FzOk W q) (S : FzOk W s) (A : Option Addr) (n c : Nat) (es : Nat → Iib) (hnc : n ≤ c) (hm : c ≤ maxLen) (RE : FRow W 3 A n (fun i => iibV .i64 .u8 (es i))) (FE : ∀ i, i < n → (Lit.int .i64 (es i).a).wf = true ∧ (Lit.int .u8 (es i).b).wf = true) (NE : A = none → n = 0 ∧ c = 0) (bu : Int) (wbu : (Lit.int .i64 bu).wf = true) (rS : Nat → Int) (hr : StOk rS) (A2 : Option Addr) (n2 c2 : Nat) (z2 : Nat → Int) (hnc2 : n2 ≤ c2) (hm2 : c2 ≤ maxLen) (R2 : IRow W .u8 A2 n2 z2) :
  Calls Tryz.prog 3 #[.agg #[.slice rA rn rc, .slice mA mn mc, .slice p.A p.n p.c, .slice q.A q.n q.c, .slice s.A s.n s.c, .slice A n c, .int .i64 bu], .agg (stA rS), .slice A2 n2 c2] W fun e w' => e = .returned (.bool true) ∧ Below W.heap.size W w' := by
 unfold maxLen at hm hm2 hmc
 obtain ⟨hb0, hb1⟩ := bounds_i64 wbu
 obtain ⟨P1, P2, P3, P4⟩ := P
 obtain ⟨Q1, Q2, Q3, Q4⟩ := Q
 obtain ⟨S1, S2, S3, S4⟩ := S
 unfold maxLen at P2 Q2 S2
 have HRN := Lib.hid RN
 have HP4 := Lib.hid P4
 have HQ4 := Lib.hid Q4
 have HU4 := Lib.hid S4
 have HFE := Lib.hid FE
 have HNE := Lib.hid NE
 have HP3 := Lib.hid P3
 have HQ3 := Lib.hid Q3
 have HU3 := Lib.hid S3
 have HRE := Lib.hid RE
 have HR2 := Lib.hid R2
 have HRR := Lib.hid RR
 have HRM := Lib.hid RM
 have HRO := Lib.hid hr
 have h8 : ∀ r, (Tryz.prog.info? 32).map (·.size) = some (stA r).size := fun r => by rw [stA_size]; exact size_state
 have H8 := Lib.hid h8
 have HN2 := Lib.hid (And.intro hnc2 hm2)
 clear P3 Q3 S3 P4 Q4 S4 RE FE NE R2 RR RN RM wbu hr h8 hm2
 go_enter Tryz.func3, Tryz.ntmps3
 go_upto_region 1 with fail
 have FB := Lib.hid ((Blk.new W 28 #[.slice rA rn rc, .slice mA mn mc, .slice p.A p.n p.c, .slice q.A q.n q.c, .slice s.A s.n s.c, .slice A n c, .int .i64 bu]).alloc (.cells (stA rS) 32))
 have SB : Hid (Blk ((W.alloc (.cells #[.slice rA rn rc, .slice mA mn mc, .slice p.A p.n p.c, .slice q.A q.n q.c, .slice s.A s.n s.c, .slice A n c, .int .i64 bu] 28)).alloc (.cells (stA rS) 32)) (W.heap.size + 1) 32 (stA rS)) := Lib.hid (Blk.new_ (by simp))
 have HB := Lib.hid (((Below.refl W.heap.size W).alloc (Nat.le_refl _) (.cells #[.slice rA rn rc, .slice mA mn mc, .slice p.A p.n p.c, .slice q.A q.n q.c, .slice s.A s.n s.c, .slice A n c, .int .i64 bu] 28)).alloc (by simp) (.cells (stA rS) 32))
 obtain ⟨w0, hw0⟩ : ∃ w0, (W.alloc (.cells #[.slice rA rn rc, .slice mA mn mc, .slice p.A p.n p.c, .slice q.A q.n q.c, .slice s.A s.n s.c, .slice A n c, .int .i64 bu] 28)).alloc (.cells (stA rS) 32) = w0 := ⟨_, rfl⟩
 rw [hw0] at FB SB HB
 have HW0 := Lib.hid hw0
 clear hw0
 rw [HW0.out]
 go_wp2_with fail
 refine (live27_any _).mono ?_
 rintro e w1 ⟨rfl, b1⟩
 replace HB := Lib.hid (HB.out.trans (b1.mono HB.out.size))
 replace FB := Lib.hid (FB.out.below b1 FB.out.lt)
 replace SB := Lib.hid (SB.out.below b1 SB.out.lt)
 clear b1 HW0
 go_upto_region 3 with fail
 by_cases ja : 20 < n2
 ·have da : decide ((20 : Int) < (n2 : Int)) = true := decide_eq_true (by omega)
  have k0 : w1.cell? ⟨W.heap.size, 0, none⟩ = some (.slice rA rn rc) := FB.out.cell 0
  have k1 : w1.cell? ⟨W.heap.size, 1, none⟩ = some (.slice mA mn mc) := FB.out.cell 1
  have k2 : w1.cell? ⟨W.heap.size, 2, none⟩ = some (.slice p.A p.n p.c) := FB.out.cell 2
  have k3 : w1.cell? ⟨W.heap.size, 3, none⟩ = some (.slice q.A q.n q.c) := FB.out.cell 3
  have k4 : w1.cell? ⟨W.heap.size, 4, none⟩ = some (.slice s.A s.n s.c) := FB.out.cell 4
  have k5 : w1.cell? ⟨W.heap.size, 5, none⟩ = some (.slice A n c) := FB.out.cell 5
  have k6 : w1.cell? ⟨W.heap.size, 6, none⟩ = some (.int .i64 bu) := FB.out.cell 6
  skip
  go_wp2_with fail
  go_ret
  exact ⟨rfl, HB.out⟩
 by_cases jc : 20 < mn
 ·have da : decide ((20 : Int) < (n2 : Int)) = false := decide_eq_false (by omega)
  have dc : decide ((20 : Int) < (mn : Int)) = true := decide_eq_true (by omega)
  have k0 : w1.cell? ⟨W.heap.size, 0, none⟩ = some (.slice rA rn rc) := FB.out.cell 0
  have k1 : w1.cell? ⟨W.heap.size, 1, none⟩ = some (.slice mA mn mc) := FB.out.cell 1
  have k2 : w1.cell? ⟨W.heap.size, 2, none⟩ = some (.slice p.A p.n p.c) := FB.out.cell 2
  have k3 : w1.cell? ⟨W.heap.size, 3, none⟩ = some (.slice q.A q.n q.c) := FB.out.cell 3
  have k4 : w1.cell? ⟨W.heap.size, 4, none⟩ = some (.slice s.A s.n s.c) := FB.out.cell 4
  have k5 : w1.cell? ⟨W.heap.size, 5, none⟩ = some (.slice A n c) := FB.out.cell 5
  have k6 : w1.cell? ⟨W.heap.size, 6, none⟩ = some (.int .i64 bu) := FB.out.cell 6
  skip
  go_wp2_with fail
  go_ret
  exact ⟨rfl, HB.out⟩
 have da : decide ((20 : Int) < (n2 : Int)) = false := decide_eq_false (by omega)
 have dc : decide ((20 : Int) < (mn : Int)) = false := decide_eq_false (by omega)
 have k0 : w1.cell? ⟨W.heap.size, 0, none⟩ = some (.slice rA rn rc) := FB.out.cell 0
 have k1 : w1.cell? ⟨W.heap.size, 1, none⟩ = some (.slice mA mn mc) := FB.out.cell 1
 have k2 : w1.cell? ⟨W.heap.size, 2, none⟩ = some (.slice p.A p.n p.c) := FB.out.cell 2
 have k3 : w1.cell? ⟨W.heap.size, 3, none⟩ = some (.slice q.A q.n q.c) := FB.out.cell 3
 have k4 : w1.cell? ⟨W.heap.size, 4, none⟩ = some (.slice s.A s.n s.c) := FB.out.cell 4
 have k5 : w1.cell? ⟨W.heap.size, 5, none⟩ = some (.slice A n c) := FB.out.cell 5
 have k6 : w1.cell? ⟨W.heap.size, 6, none⟩ = some (.int .i64 bu) := FB.out.cell 6
 go_upto_region 5 with fail
 by_cases hl : 10000 < p.n ∨ 10000 < q.n ∨ 10000 < s.n
 ·go_wp2_with fail
  refine (hnew_long (by omega) (by omega) (by omega) hl).mono ?_
  rintro e w2 ⟨rfl, b2⟩
  have hsz := HB.out.size
  replace HB := Lib.hid (HB.out.trans (b2.mono hsz))
  replace FB := Lib.hid (FB.out.below b2 FB.out.lt)
  replace SB := Lib.hid (SB.out.below b2 SB.out.lt)
  clear b2 hsz
  go_upto_region 6 with fail
  have hsz := HB.out.size
  have X1 := Lib.hid (Blk.new w2 37 #[.int .i64 2, .int .i64 0])
  replace HB := Lib.hid (HB.out.alloc hsz (.cells #[.int .i64 2, .int .i64 0] 37))
  replace FB := Lib.hid (FB.out.alloc (.cells #[.int .i64 2, .int .i64 0] 37))
  replace SB := Lib.hid (SB.out.alloc (.cells #[.int .i64 2, .int .i64 0] 37))
  clear hsz k0 k1 k2 k3 k4 k5 k6
  generalize w2.heap.size = gX1 at *
  generalize World.alloc w2 _ = w3 at *
  have k0 : w3.cell? ⟨W.heap.size, 0, none⟩ = some (.slice rA rn rc) := FB.out.cell 0
  have k1 : w3.cell? ⟨W.heap.size, 1, none⟩ = some (.slice mA mn mc) := FB.out.cell 1
  have k2 : w3.cell? ⟨W.heap.size, 2, none⟩ = some (.slice p.A p.n p.c) := FB.out.cell 2
  have k3 : w3.cell? ⟨W.heap.size, 3, none⟩ = some (.slice q.A q.n q.c) := FB.out.cell 3
  have k4 : w3.cell? ⟨W.heap.size, 4, none⟩ = some (.slice s.A s.n s.c) := FB.out.cell 4
  have k5 : w3.cell? ⟨W.heap.size, 5, none⟩ = some (.slice A n c) := FB.out.cell 5
  have k6 : w3.cell? ⟨W.heap.size, 6, none⟩ = some (.int .i64 bu) := FB.out.cell 6
  go_wp2_with fail
  refine (rhnew_long (by omega) (by omega) (by omega) hl).mono ?_
  rintro e w4 ⟨rfl, b4⟩
  have hsz := HB.out.size
  replace HB := Lib.hid (HB.out.trans (b4.mono hsz))
  replace FB := Lib.hid (FB.out.below b4 FB.out.lt)
  replace SB := Lib.hid (SB.out.below b4 SB.out.lt)
  replace X1 := Lib.hid (X1.out.below b4 X1.out.lt)
  clear b4 hsz
  go_upto_region 7 with fail
  have hX := X1.out.lt
  have Y1 := Lib.hid (X1.out.alloc (.cells #[.int .i64 2, .int .i64 0] 37))
  clear X1 hX
  have hsz := HB.out.size
  have X2 := Lib.hid (Blk.new w4 37 #[.int .i64 2, .int .i64 0])
  replace HB := Lib.hid (HB.out.alloc hsz (.cells #[.int .i64 2, .int .i64 0] 37))
  replace FB := Lib.hid (FB.out.alloc (.cells #[.int .i64 2, .int .i64 0] 37))
  replace SB := Lib.hid (SB.out.alloc (.cells #[.int .i64 2, .int .i64 0] 37))
  clear hsz k0 k1 k2 k3 k4 k5 k6
  generalize w4.heap.size = gX2 at *
  generalize World.alloc w4 _ = w5 at *
  have x0 : w5.cell? ⟨gX1, 0, none⟩ = some (.int .i64 2) := Y1.out.cell 0
  have x1 : w5.cell? ⟨gX1, 1, none⟩ = some (.int .i64 0) := Y1.out.cell 1
  have y0 : w5.cell? ⟨gX2, 0, none⟩ = some (.int .i64 2) := X2.out.cell 0
  have y1 : w5.cell? ⟨gX2, 1, none⟩ = some (.int .i64 0) := X2.out.cell 1
  go_wp2_with fail
  go_ret
  exact ⟨rfl, HB.out⟩
 by_cases hk : ¬ (chk es n).1 = 0
 ·obtain ⟨⟨a, b⟩, hab⟩ : ∃ r, chk es n = r := ⟨_, rfl⟩
  have HAB := Lib.hid hab
  have na : (a != a) = false := by simp
  have nz : (a != 0) = true := by have h := hk; rw [hab] at h; simpa using h
  have HNK : Hid ((chk es n).1 ≠ 0) := Lib.hid hk
  clear hab hk
  go_wp2_with fail
  refine (hnew_bad (FRow.keep HRE.out HB.out) hl (by omega) HNK.out).mono ?_
  rw [HAB.out]
  rintro e w2 ⟨rfl, b2⟩
  have hsz := HB.out.size
  replace HB := Lib.hid (HB.out.trans (b2.mono hsz))
  replace FB := Lib.hid (FB.out.below b2 FB.out.lt)
  replace SB := Lib.hid (SB.out.below b2 SB.out.lt)
  clear b2 hsz
  go_upto_region 6 with fail
  have hsz := HB.out.size
  have X1 := Lib.hid (Blk.new w2 37 #[.int .i64 a, .int .i64 b])
  replace HB := Lib.hid (HB.out.alloc hsz (.cells #[.int .i64 a, .int .i64 b] 37))
  replace FB := Lib.hid (FB.out.alloc (.cells #[.int .i64 a, .int .i64 b] 37))
  replace SB := Lib.hid (SB.out.alloc (.cells #[.int .i64 a, .int .i64 b] 37))
  clear hsz k0 k1 k2 k3 k4 k5 k6
  generalize w2.heap.size = gX1 at *
  generalize World.alloc w2 _ = w3 at *
  have k0 : w3.cell? ⟨W.heap.size, 0, none⟩ = some (.slice rA rn rc) := FB.out.cell 0
  have k1 : w3.cell? ⟨W.heap.size, 1, none⟩ = some (.slice mA mn mc) := FB.out.cell 1
  have k2 : w3.cell? ⟨W.heap.size, 2, none⟩ = some (.slice p.A p.n p.c) := FB.out.cell 2
  have k3 : w3.cell? ⟨W.heap.size, 3, none⟩ = some (.slice q.A q.n q.c) := FB.out.cell 3
  have k4 : w3.cell? ⟨W.heap.size, 4, none⟩ = some (.slice s.A s.n s.c) := FB.out.cell 4
  have k5 : w3.cell? ⟨W.heap.size, 5, none⟩ = some (.slice A n c) := FB.out.cell 5
  have k6 : w3.cell? ⟨W.heap.size, 6, none⟩ = some (.int .i64 bu) := FB.out.cell 6
  go_wp2_with fail
  refine (rhnew_bad (FRow.keep HRE.out HB.out) hl (by omega) HNK.out).mono ?_
  rw [HAB.out]
  rintro e w4 ⟨rfl, b4⟩
  have hsz := HB.out.size
  replace HB := Lib.hid (HB.out.trans (b4.mono hsz))
  replace FB := Lib.hid (FB.out.below b4 FB.out.lt)
  replace SB := Lib.hid (SB.out.below b4 SB.out.lt)
  replace X1 := Lib.hid (X1.out.below b4 X1.out.lt)
  clear b4 hsz
  go_upto_region 7 with fail
  have hX := X1.out.lt
  have Y1 := Lib.hid (X1.out.alloc (.cells #[.int .i64 a, .int .i64 b] 37))
  clear X1 hX
  have hsz := HB.out.size
  have X2 := Lib.hid (Blk.new w4 37 #[.int .i64 a, .int .i64 b])
  replace HB := Lib.hid (HB.out.alloc hsz (.cells #[.int .i64 a, .int .i64 b] 37))
  replace FB := Lib.hid (FB.out.alloc (.cells #[.int .i64 a, .int .i64 b] 37))
  replace SB := Lib.hid (SB.out.alloc (.cells #[.int .i64 a, .int .i64 b] 37))
  clear hsz k0 k1 k2 k3 k4 k5 k6
  generalize w4.heap.size = gX2 at *
  generalize World.alloc w4 _ = w5 at *
  have x0 : w5.cell? ⟨gX1, 0, none⟩ = some (.int .i64 a) := Y1.out.cell 0
  have x1 : w5.cell? ⟨gX1, 1, none⟩ = some (.int .i64 b) := Y1.out.cell 1
  have y0 : w5.cell? ⟨gX2, 0, none⟩ = some (.int .i64 a) := X2.out.cell 0
  have y1 : w5.cell? ⟨gX2, 1, none⟩ = some (.int .i64 b) := X2.out.cell 1
  go_wp2_with fail
  go_ret
  exact ⟨rfl, HB.out⟩
 replace hk := Decidable.not_not.1 hk
 obtain ⟨gq1, gq2, _⟩ := chk_zero hk
 have GD : Hid (Good n es) := Lib.hid ⟨gq1, gq2, fun j hj => (bounds_u8 (HFE.out j hj).2).1⟩
 have HK := Lib.hid hk
 have HCC : Hid (HC W ⟨n, es, p.n, p.z, q.n, q.z, s.n, s.z⟩ ⟨p.A, p.c, q.A, q.c, s.A, s.c, A, c⟩) := Lib.hid ⟨⟨HP3.out, HQ3.out, HU3.out, HRE.out⟩, by dsimp only; omega⟩
 clear hk gq2
 go_wp2_with fail
 refine (hnew_yes HP4.out HQ4.out HU4.out HNE.out (IRow.keep HP3.out HB.out) (IRow.keep HQ3.out HB.out) (IRow.keep HU3.out HB.out) (FRow.keep HRE.out HB.out) hl (by omega) HK.out GD.out).mono ?_
 rintro e w2 ⟨g, b, rfl, hg, h2, b2⟩
 have hsz := HB.out.size
 replace HB := Lib.hid (HB.out.trans (b2.mono hsz))
 replace FB := Lib.hid (FB.out.below b2 FB.out.lt)
 replace SB := Lib.hid (SB.out.below b2 SB.out.lt)
 have H2 := Lib.hid h2
 have HGL : Hid (∀ y ∈ [g, b.v, b.c, b.p], W.heap.size ≤ y) := Lib.hid fun y hy => by
  simp only [List.mem_cons, List.not_mem_nil, or_false] at hy
  rcases hy with rfl | rfl | rfl | rfl <;> omega
 clear b2 hsz h2 hg
 go_upto_region 6 with fail
 replace H2 := Lib.hid (H2.out.keep ((Below.refl w2.heap.size w2).alloc (Nat.le_refl _) (.cells #[.int .i64 0, .int .i64 0] 37)))
 have hsz := HB.out.size
 have X1 := Lib.hid (Blk.new w2 37 #[.int .i64 0, .int .i64 0])
 replace HB := Lib.hid (HB.out.alloc hsz (.cells #[.int .i64 0, .int .i64 0] 37))
 replace FB := Lib.hid (FB.out.alloc (.cells #[.int .i64 0, .int .i64 0] 37))
 replace SB := Lib.hid (SB.out.alloc (.cells #[.int .i64 0, .int .i64 0] 37))
 clear hsz k0 k1 k2 k3 k4 k5 k6
 generalize w2.heap.size = gX1 at *
 generalize World.alloc w2 _ = w3 at *
 have k0 : w3.cell? ⟨W.heap.size, 0, none⟩ = some (.slice rA rn rc) := FB.out.cell 0
 have k1 : w3.cell? ⟨W.heap.size, 1, none⟩ = some (.slice mA mn mc) := FB.out.cell 1
 have k2 : w3.cell? ⟨W.heap.size, 2, none⟩ = some (.slice p.A p.n p.c) := FB.out.cell 2
 have k3 : w3.cell? ⟨W.heap.size, 3, none⟩ = some (.slice q.A q.n q.c) := FB.out.cell 3
 have k4 : w3.cell? ⟨W.heap.size, 4, none⟩ = some (.slice s.A s.n s.c) := FB.out.cell 4
 have k5 : w3.cell? ⟨W.heap.size, 5, none⟩ = some (.slice A n c) := FB.out.cell 5
 have k6 : w3.cell? ⟨W.heap.size, 6, none⟩ = some (.int .i64 bu) := FB.out.cell 6
 go_wp2_with fail
 refine (rhnew_yes (z1 := p.z) (z2 := q.z) (z3 := s.z) (FRow.keep HRE.out HB.out) hl (by omega) HK.out).mono ?_
 rintro e w4 ⟨r, J, rfl, hr, h4, b4⟩
 have HAP : Hid (∀ y ∈ [g, b.v, b.c, b.p], y ∉ J.all r) := Lib.hid fun y hy hy2 => by
  obtain ⟨a1, a2, a3, a4⟩ := H2.out.lt
  have := hr y hy2
  simp only [List.mem_cons, List.not_mem_nil, or_false] at hy
  rcases hy with rfl | rfl | rfl | rfl <;> omega
 have hW : W.heap.size ≤ w3.heap.size := HB.out.size
 have hsz := HB.out.size
 replace HB := Lib.hid (HB.out.trans (b4.mono hsz))
 replace FB := Lib.hid (FB.out.below b4 FB.out.lt)
 replace SB := Lib.hid (SB.out.below b4 SB.out.lt)
 replace H2 := Lib.hid (H2.out.keep b4)
 replace X1 := Lib.hid (X1.out.below b4 X1.out.lt)
 have R4 := Lib.hid h4
 have HRL : Hid (∀ y ∈ J.all r, W.heap.size ≤ y) := Lib.hid fun y hy => Nat.le_trans hW (hr y hy)
 clear b4 hsz h4 hr hW
 go_upto_region 7 with fail
 replace H2 := Lib.hid (H2.out.keep ((Below.refl w4.heap.size w4).alloc (Nat.le_refl _) (.cells #[.int .i64 0, .int .i64 0] 37)))
 replace R4 := Lib.hid (R4.out.keep ((Below.refl w4.heap.size w4).alloc (Nat.le_refl _) (.cells #[.int .i64 0, .int .i64 0] 37)))
 have Y1 := Lib.hid (X1.out.alloc (.cells #[.int .i64 0, .int .i64 0] 37))
 clear X1
 have hsz := HB.out.size
 have X2 := Lib.hid (Blk.new w4 37 #[.int .i64 0, .int .i64 0])
 replace HB := Lib.hid (HB.out.alloc hsz (.cells #[.int .i64 0, .int .i64 0] 37))
 replace FB := Lib.hid (FB.out.alloc (.cells #[.int .i64 0, .int .i64 0] 37))
 replace SB := Lib.hid (SB.out.alloc (.cells #[.int .i64 0, .int .i64 0] 37))
 clear hsz k0 k1 k2 k3 k4 k5 k6
 generalize w4.heap.size = gX2 at *
 generalize World.alloc w4 _ = w5 at *
 have x0 : w5.cell? ⟨gX1, 0, none⟩ = some (.int .i64 0) := Y1.out.cell 0
 have x1 : w5.cell? ⟨gX1, 1, none⟩ = some (.int .i64 0) := Y1.out.cell 1
 have y0 : w5.cell? ⟨gX2, 0, none⟩ = some (.int .i64 0) := X2.out.cell 0
 have y1 : w5.cell? ⟨gX2, 1, none⟩ = some (.int .i64 0) := X2.out.cell 1
 have k0 : w5.cell? ⟨W.heap.size, 0, none⟩ = some (.slice rA rn rc) := FB.out.cell 0
 have k1 : w5.cell? ⟨W.heap.size, 1, none⟩ = some (.slice mA mn mc) := FB.out.cell 1
 have k2 : w5.cell? ⟨W.heap.size, 2, none⟩ = some (.slice p.A p.n p.c) := FB.out.cell 2
 have k3 : w5.cell? ⟨W.heap.size, 3, none⟩ = some (.slice q.A q.n q.c) := FB.out.cell 3
 have k4 : w5.cell? ⟨W.heap.size, 4, none⟩ = some (.slice s.A s.n s.c) := FB.out.cell 4
 have k5 : w5.cell? ⟨W.heap.size, 5, none⟩ = some (.slice A n c) := FB.out.cell 5
 have k6 : w5.cell? ⟨W.heap.size, 6, none⟩ = some (.int .i64 bu) := FB.out.cell 6
 go_wp2_with fail
 refine (bnew_any H2.out HRN.out (by omega) (IRow.keep HRR.out HB.out) bu).mono ?_
 rintro e w6 ⟨gB, mB, rv, rfl, hg6, hm6, hb6, b6⟩
 have H25 := H2
 have R45 := R4
 have HS5 := Lib.hid HB.out.size
 have HG6 := Lib.hid hg6
 have HM6 := Lib.hid hm6
 have HB6 := Lib.hid hb6
 have hsz := HB.out.size
 replace HB := Lib.hid (HB.out.trans (b6.mono hsz))
 replace FB := Lib.hid (FB.out.below b6 FB.out.lt)
 replace SB := Lib.hid (SB.out.below b6 SB.out.lt)
 replace R4 := Lib.hid (R4.out.keep b6)
 clear b6 hsz hg6 hm6 hb6 x0 x1 y0 y1 X2 Y1 k0 k1 k2 k3 k4 k5 k6
 have k0 : w6.cell? ⟨W.heap.size, 0, none⟩ = some (.slice rA rn rc) := FB.out.cell 0
 have k1 : w6.cell? ⟨W.heap.size, 1, none⟩ = some (.slice mA mn mc) := FB.out.cell 1
 have k2 : w6.cell? ⟨W.heap.size, 2, none⟩ = some (.slice p.A p.n p.c) := FB.out.cell 2
 have k3 : w6.cell? ⟨W.heap.size, 3, none⟩ = some (.slice q.A q.n q.c) := FB.out.cell 3
 have k4 : w6.cell? ⟨W.heap.size, 4, none⟩ = some (.slice s.A s.n s.c) := FB.out.cell 4
 have k5 : w6.cell? ⟨W.heap.size, 5, none⟩ = some (.slice A n c) := FB.out.cell 5
 have k6 : w6.cell? ⟨W.heap.size, 6, none⟩ = some (.int .i64 bu) := FB.out.cell 6
 go_wp2_with fail
 refine (rbnew_any (W := W) R4.out HB.out HRL.out HRR.out ⟨hrn, by unfold maxLen; omega⟩ rv hb0 hb1).mono ?_
 rintro e w7 ⟨gR, rfl, hn7⟩
 obtain ⟨Q, x7, hQZ, b7⟩ := bx_new (W := W) H25.out R45.out HGL.out HAP.out HS5.out HG6.out HM6.out HB6.out hn7
 have HCQ : Hid (HC W ⟨n, es, p.n, p.z, q.n, q.z, s.n, s.z⟩ Q.Z) := Lib.hid (hQZ ▸ HCC.out)
 have FIT : Hid ((Bs.new rv rn rz Hp.new bu).fit 0) := Lib.hid ⟨room_new, fun _ => rfl⟩
 obtain ⟨t0, ht0⟩ : ∃ t0, Bs.new rv rn rz Hp.new bu = t0 := ⟨_, rfl⟩
 rw [ht0] at x7 FIT
 replace FB := Lib.hid (FB.out.below b7 FB.out.lt)
 replace SB := Lib.hid (SB.out.below b7 SB.out.lt)
 have X7 := Lib.hid (x7.kp0 (Kp.refl [] w7).drew)
 obtain ⟨P, hP⟩ : ∃ P, (⟨mB, none, g, b, .slice none 0 0⟩ : Bp) = P := ⟨_, rfl⟩
 rw [hP] at X7
 have k1' : w7.drew.cell? ⟨W.heap.size, 1, none⟩ = some (.slice mA mn mc) := FB.out.cell 1
 clear x7 hQZ b7 hn7 ht0 hP H25 R45 HGL HAP HRL HS5 HG6 HM6 HB6 H2 R4 HCC k0 k1 k2 k3 k4 k5 k6
 go_wp2_with fail
 have FILLS : ∃ (a b : Int) (sF : Bs), sF.fit 0 ∧ (∀ w, BU w gB ⟨n, es, p.n, p.z, q.n, q.z, s.n, s.z⟩ P t0 → Below W.heap.size W w → Calls Tryz.prog 11 #[.pointer (some ⟨gB, 0, none⟩), .slice mA mn mc] w (BuR (.agg #[.int .i64 a, .int .i64 b]) gB ⟨n, es, p.n, p.z, q.n, q.z, s.n, s.z⟩ P sF w)) ∧ (∀ w nx, RBU W w gR ⟨n, es, p.n, p.z, q.n, q.z, s.n, s.z⟩ Q t0 nx → Calls Tryz.prog 12 #[.pointer (some ⟨gR, 0, none⟩), .slice mA mn mc] w (RbR (.agg #[.int .i64 a, .int .i64 b]) W gR ⟨n, es, p.n, p.z, q.n, q.z, s.n, s.z⟩ Q sF nx w)) := by
  rcases first_badR mn ps with hg | ⟨j, hj, hg, hb⟩
  ·exact ⟨0, 0, { t0 with f := flt t0.f ps mn }, by exact FIT.out, fun w h bw => bfill_good h bw X7.out.lo HRM.out (by omega) hg, fun w nx h => rbfill_good h HRM.out (by omega) hg⟩
  ·exact ⟨1, j, t0, FIT.out, fun w h bw => bfill_bad h bw X7.out.lo HRM.out (by omega) hj hg hb, fun w nx h => rbfill_bad h HRM.out (by omega) hj hg hb⟩
 obtain ⟨fa, fb, sF, fitF, fl1, fl2⟩ := FILLS
 have na : (fa != fa) = false := by simp
 have nb : (fb != fb) = false := by simp
 have FL1 := Lib.hid fl1
 have FL2 := Lib.hid fl2
 have FITF := Lib.hid fitF
 clear fl1 fl2 fitF FIT
 refine rg_begin (S := fun w' => w'.cell? ⟨W.heap.size, 1, none⟩ = some (.slice mA mn mc)) 9 #[false, false, false, false, false, false, false, false, false] (by kernel_rfl) (by kernel_rfl) (by kernel_rfl) ?_ (fun hHeld => ?_)
 ·exact k1'
 refine rgu 0 (some 63) rfl ?_
 refine rgu 1 (some 64) rfl ?_
 refine rgu 2 (some 65) rfl ?_
 refine rgu 4 (some 67) rfl ?_
 refine rgu 5 (some 68) rfl ?_
 refine rgu 6 (some 69) rfl ?_
 try simp only [Act.put, List.setIfInBounds_toArray, List.set_cons_zero, List.set_cons_succ]
 refine rg_next (i := 3) (l := #[true, true, true, true, true, true, true, false, false]) (fuel := 2) (by kernel_rfl) rfl (by kernel_rfl) (by kernel_rfl) (fun K hK => ?_)
 go_simp
 (go_at_call 11)
 refine (FL1.out _ X7.out.bu X7.out.rb.old).mono ?_
 rintro e w8 ⟨P8, he, a8⟩
 subst he
 have A8 : Hid (BuR (.agg #[.int .i64 fa, .int .i64 fb]) gB ⟨n, es, p.n, p.z, q.n, q.z, s.n, s.z⟩ P sF w7.drew (.returned (.agg #[.int .i64 fa, .int .i64 fb])) w8) := Lib.hid ⟨P8, rfl, a8⟩
 have R8 := Lib.hid (X7.out.ref1 a8.2.1)
 have F8 := Lib.hid (FB.out.drew_.kp a8.2.1 (X7.out.bu.offS FB.out.drew_ (.inr rfl)))
 have S8 := Lib.hid (SB.out.drew_.kp a8.2.1 (X7.out.bu.offS SB.out.drew_ (.inl rfl)))
 clear a8 k1'
 have k1' : w8.cell? ⟨W.heap.size, 1, none⟩ = some (.slice mA mn mc) := F8.out.cell 1
 first | (refine hK.out _ _ ?_ (fun hHeld => ?_)) | (go_wp2_with fail; refine hK.out _ _ ?_ (fun hHeld => ?_))
 ·(try dsimp only); exact k1'
 clear hK K
 try simp only [Act.put, List.setIfInBounds_toArray, List.set_cons_zero, List.set_cons_succ]
 refine rg_next (i := 7) (l := #[true, true, true, true, true, true, true, true, false]) (fuel := 1) (by kernel_rfl) rfl (by kernel_rfl) (by kernel_rfl) (fun K hK => ?_)
 go_simp
 (go_at_call 12)
 refine (FL2.out _ _ R8.out).mono ?_
 rintro e w9 ⟨t9, he, a9⟩
 subst he
 have kk9 := a9.2.1
 obtain ⟨P9, t9', nx9, x9, k9, -⟩ := BX.both (v2 := .agg #[.int .i64 fa, .int .i64 fb]) (e2 := .returned (.agg #[.int .i64 fa, .int .i64 fb])) X7.out A8.out ⟨t9, rfl, a9⟩
 have F9 := Lib.hid (F8.out.kp kk9 (R8.out.offS F8.out (.inr rfl)))
 have S9 := Lib.hid (S8.out.kp kk9 (R8.out.offS S8.out (.inl rfl)))
 have X9 := Lib.hid x9
 clear a9 k9 kk9 x9 k1' A8 R8 F8 S8 X7
 have k1' : w9.cell? ⟨W.heap.size, 1, none⟩ = some (.slice mA mn mc) := F9.out.cell 1
 first | (refine hK.out _ _ ?_ (fun hHeld => ?_)) | (go_wp2_with fail; refine hK.out _ _ ?_ (fun hHeld => ?_))
 ·(try dsimp only); exact k1'
 clear hK K
 refine rgt 8 (some 71) (v := .bool false) rfl ?_ ?_
 ·(intro wS hSw; (try dsimp only at hSw); (go_simp; try with_reducible rfl))
 try simp only [Act.put, List.setIfInBounds_toArray, List.set_cons_zero, List.set_cons_succ]
 refine wpAnyH_done (by kernel_rfl) ?_ _
 clear k1' FB SB FL1 FL2 F9
 have kkS := S9.out
 have hst := (Blk.new w9 32 #[.int .u8 0, .int .u8 0, .int .u8 0, .int .u8 0, .int .u8 0, .int .u16 0, .int .u8 0, .int .u8 0, .int .u8 0, .int .u8 0, .int .u8 0, .int .u8 0, .int .u8 0, .int .u8 0, .int .u8 0, .bool false]).run_store (P := Tryz.prog) (stA rS) rfl (stA_one _)
 have hsR := stA_size rS
 go_upto_region 14 with (refine wpList_load_row rfl 32 (.tmp 4) rfl (W.heap.size + 1) (by rfl) 32 (stA rS) (0, 0) _ kkS Tryz.underlying32 rfl (H8.out rS) ?_)
 have al := below_setRow ((Below.refl _ w9).alloc (Nat.le_refl _) (.cells #[.int .u8 0, .int .u8 0, .int .u8 0, .int .u8 0, .int .u8 0, .int .u16 0, .int .u8 0, .int .u8 0, .int .u8 0, .int .u8 0, .int .u8 0, .int .u8 0, .int .u8 0, .int .u8 0, .int .u8 0, .bool false] 32)) (Nat.le_refl _) (stA rS)
 have T10 := Lib.hid ((Blk.new w9 32 #[.int .u8 0, .int .u8 0, .int .u8 0, .int .u8 0, .int .u8 0, .int .u16 0, .int .u8 0, .int .u8 0, .int .u8 0, .int .u8 0, .int .u8 0, .int .u8 0, .int .u8 0, .int .u8 0, .int .u8 0, .bool false]).row (stA rS))
 have S10 := Lib.hid (S9.out.below al S9.out.lt)
 have X10 := Lib.hid (X9.out.on al)
 have HGT : Hid (w9.heap.size ≠ W.heap.size + 1) := Lib.hid (by have := S9.out.lt; omega)
 have HGW : Hid (W.heap.size ≤ w9.heap.size) := Lib.hid X9.out.rb.old.size
 clear al kkS hst hsR S9 X9
 generalize World.setRow _ _ _ = w10 at *
 generalize w9.heap.size = gT at *
 go_wp2_with fail
 go_loopw [14] (fun i wr => ∃ j : Nat, j ≤ n2 ∧ i = .int .i64 j ∧ ∃ (r1 : Nat → Int) (s1 : Bs) (P1 : Bp) (t1 : Value) (nx1 : Bool), StOk r1 ∧ Blk wr (W.heap.size + 1) 32 (stA r1) ∧ Blk wr gT 32 (stA r1) ∧ BX W wr gB ⟨n, es, p.n, p.z, q.n, q.z, s.n, s.z⟩ P1 gR { Q with tr := t1 } s1 nx1 ∧ s1.fit (20 * j)) (fun i _ => n2 - (intOf i).toNat)
 case atStart => exact ⟨0, by omega, rfl, rS, sF, P9, t9', nx9, HRO.out, S10.out, T10.out, X10.out, FITF.out⟩
 case round =>
  obtain ⟨j, hj, rfl, r1, s1, P1, t1, nx1, hr1, hS, hT, hX, hF⟩ := hrel
  have S1 := Lib.hid hS
  have T1 := Lib.hid hT
  have X1 := Lib.hid hX
  have HF1 := Lib.hid hF
  have HRR1 := Lib.hid hr1
  clear hS hT hX hF hr1
  by_cases hlt : j < n2
  ·obtain ⟨ad, rfl, hl, hc, hw⟩ := HR2.out j hlt
   obtain ⟨v0, v1⟩ := bounds_u8 hw
   obtain ⟨k, hk0⟩ : ∃ k : Nat, z2 j = (k : Int) := ⟨(z2 j).toNat, by omega⟩
   rw [hk0] at hc v1
   have HLT := Lib.hid hl
   have HC0 := Lib.hid hc
   have C1 := Lib.hid ((X1.out.rb.old.cell (p := ad.add j) (by rw [block_of_add]; exact hl)).trans hc)
   have XD := Lib.hid (X1.out.kp0 (Kp.refl [] wr).drew)
   have i1 : (j : Int) < n2 := by omega
   clear hl hc hw hk0 v0
   by_cases hk : 1 ≤ k ∧ k ≤ 5
   ·skip
    go_upto_region 17 with fail
    refine rg_begin (S := fun w' => Blk w' gT 32 (stA r1) ∧ w'.cell? (ad.add j) = some (.int .u8 (k : Int))) 8 #[false, false, false, false, false, false, false, false] (by kernel_rfl) (by kernel_rfl) (by kernel_rfl) ?_ (fun hHeld => ?_)
    ·exact ⟨T1.out.drew_, C1.out⟩
    refine rgu 0 (some 79) rfl ?_
    refine rgu 2 (some 81) rfl ?_
    refine rgu 3 (some 82) rfl ?_
    refine rgu 4 (some 83) rfl ?_
    refine rgu 5 (some 84) rfl ?_
    try simp only [Act.put, List.setIfInBounds_toArray, List.set_cons_zero, List.set_cons_succ]
    refine rg_next (i := 1) (l := #[true, true, true, true, true, true, false, false]) (fuel := 2) (by kernel_rfl) rfl (by kernel_rfl) (by kernel_rfl) (fun K hK => ?_)
    refine wp_load_row 32 (.tmp 4) rfl (W.heap.size + 1) (by rfl) 32 (stA r1) (0, 0) _ S1.out.drew_ Tryz.underlying32 rfl (H8.out r1) ?_
    refine hK.out _ _ ?_ (fun hHeld => ?_)
    ·(try dsimp only); exact ⟨T1.out.drew_, C1.out⟩
    clear hK K
    try simp only [Act.put, List.setIfInBounds_toArray, List.set_cons_zero, List.set_cons_succ]
    refine rg_next (i := 6) (l := #[true, true, true, true, true, true, true, false]) (fuel := 1) (by kernel_rfl) rfl (by kernel_rfl) (by kernel_rfl) (fun K hK => ?_)
    go_simp
    go_at_call 13
    refine (edo_bu k hk XD.out.bu HRR1.out HF1.out (by omega)).mono ?_
    rintro e w2 ⟨⟨P2, rfl, b2, k2, f2, e21, e22, e23⟩, oks2⟩
    have RB2 := Lib.hid (XD.out.ref1 k2)
    have BU2 := Lib.hid b2
    have K2 := Lib.hid k2
    have F2 := Lib.hid f2
    have E2 := Lib.hid e22
    have OK2 := Lib.hid oks2
    have S2 := Lib.hid (S1.out.drew_.kp k2 (XD.out.bu.offS S1.out.drew_ (.inl rfl)))
    have T2 := Lib.hid (T1.out.drew_.kp k2 (XD.out.bu.offS T1.out.drew_ (.inl rfl)))
    have C2 := Lib.hid ((RB2.out.old.cell (p := ad.add j) (by rw [block_of_add]; exact HLT.out)).trans HC0.out)
    clear b2 k2 f2 e21 e22 e23 oks2
    first | (refine hK.out _ _ ?_ (fun hHeld => ?_)) | (go_wp2_with fail; refine hK.out _ _ ?_ (fun hHeld => ?_))
    ·(try dsimp only); exact ⟨T2.out, C2.out⟩
    clear hK K
    try simp only [Act.put, List.setIfInBounds_toArray, List.set_cons_zero, List.set_cons_succ]
    obtain ⟨va, hva⟩ : ∃ va, doA ⟨n, es, p.n, p.z, q.n, q.z, s.n, s.z⟩ k r1 s1 = va := ⟨_, rfl⟩
    obtain ⟨vb, hvb⟩ : ∃ vb, doB ⟨n, es, p.n, p.z, q.n, q.z, s.n, s.z⟩ k r1 s1 = vb := ⟨_, rfl⟩
    obtain ⟨E, hE⟩ : ∃ E, entP (k : Int) r1 (wordI va vb) = E := ⟨_, rfl⟩
    rw [hva, hvb, hE]
    have HVA := Lib.hid hva
    have HVB := Lib.hid hvb
    have HEE := Lib.hid hE
    have HEO : Hid (StOk E) := Lib.hid (by rw [← hE]; exact entP_ok HRR1.out k _ (wordI_bd va vb).1 (wordI_bd va vb).2)
    clear hva hvb hE
    have hst := S2.out.run_store (P := Tryz.prog) (stA E) rfl (stA_one _)
    have hsE := stA_size E
    have kz : Kp [W.heap.size + 1] w2 (w2.setRow (W.heap.size + 1) (stA E)) := (Kp.refl _ _).setRow (.inl (by simp)) _
    have hne : gT ≠ W.heap.size + 1 := HGT.out
    have S3 := Lib.hid (S2.out.row (stA E))
    have T3 := Lib.hid (T2.out.kp kz (by simpa using hne))
    have C3 := Lib.hid ((kz.cell (p := ad.add j) (cell_lt C2.out) (by have := HLT.out; rw [block_of_add]; simp; omega)).trans C2.out)
    have BU3 := Lib.hid (BU2.out.kpS S2.out kz)
    have RB3 := Lib.hid (RB2.out.kpS S2.out kz (by omega))
    have L3 := Lib.hid BU2.out.lt
    have SZ3 := Lib.hid kz.size
    clear kz hne S2 T2 C2 BU2 RB2
    have hSr : (fun w' : World => Blk w' gT 32 (stA r1) ∧ w'.cell? (ad.add j) = some (.int .u8 (k : Int))) (w2.setRow (W.heap.size + 1) (stA E)) := ⟨T3.out, C3.out⟩
    refine rg_next (i := 7) (l := #[true, true, true, true, true, true, true, true]) (fuel := 0) (by kernel_rfl) rfl (by kernel_rfl) (by kernel_rfl) (fun K hK => ?_)
    go_simp
    skip
    first | (refine hK.out _ _ ?_ (fun hHeld => ?_)) | (go_wp2_with fail; refine hK.out _ _ ?_ (fun hHeld => ?_))
    ·(try dsimp only); exact hSr
    clear hK K
    try simp only [Act.put, List.setIfInBounds_toArray, List.set_cons_zero, List.set_cons_succ]
    refine wpAnyH_done (by kernel_rfl) ?_ _
    clear hSr hst hsE
    obtain ⟨w3, hw3⟩ : ∃ w3, w2.setRow (W.heap.size + 1) (stA E) = w3 := ⟨_, rfl⟩
    rw [hw3] at S3 T3 C3 BU3 RB3 SZ3 ⊢
    clear hw3
    go_upto_region 18 with fail
    refine rg_begin (S := fun w' => Blk w' (W.heap.size + 1) 32 (stA E) ∧ w'.cell? (ad.add j) = some (.int .u8 (k : Int))) 8 #[false, false, false, false, false, false, false, false] (by kernel_rfl) (by kernel_rfl) (by kernel_rfl) ?_ (fun hHeld => ?_)
    ·exact ⟨S3.out.drew_, C3.out⟩
    refine rgu 0 (some 86) rfl ?_
    refine rgu 2 (some 88) rfl ?_
    refine rgu 3 (some 89) rfl ?_
    refine rgu 4 (some 90) rfl ?_
    refine rgu 5 (some 91) rfl ?_
    try simp only [Act.put, List.setIfInBounds_toArray, List.set_cons_zero, List.set_cons_succ]
    refine rg_next (i := 1) (l := #[true, true, true, true, true, true, false, false]) (fuel := 2) (by kernel_rfl) rfl (by kernel_rfl) (by kernel_rfl) (fun K hK => ?_)
    refine wp_load_row 32 (.tmp 13) rfl gT (by rfl) 32 (stA r1) (0, 0) _ T3.out.drew_ Tryz.underlying32 rfl (H8.out r1) ?_
    refine hK.out _ _ ?_ (fun hHeld => ?_)
    ·(try dsimp only); exact ⟨S3.out.drew_, C3.out⟩
    clear hK K
    try simp only [Act.put, List.setIfInBounds_toArray, List.set_cons_zero, List.set_cons_succ]
    have BD3 := Lib.hid (BU3.out.kp0 (Kp.refl [] w3).drew)
    have RD3 := Lib.hid (RB3.out.kp0 (Kp.refl [] w3).drew)
    refine rg_next (i := 6) (l := #[true, true, true, true, true, true, true, false]) (fuel := 1) (by kernel_rfl) rfl (by kernel_rfl) (by kernel_rfl) (fun K hK => ?_)
    go_simp
    go_at_call 14
    refine (rdo_rb k hk RD3.out HCQ.out GD.out OK2.out HRR1.out HF1.out (by omega)).mono ?_
    rw [HVA.out, HVB.out, HEE.out]
    rintro e w4 ⟨nx4, t4, rfl, r4, k4, f4⟩
    have X4 := Lib.hid (BX.three (w3 := w3.drew) XD.out K2.out F2.out E2.out SZ3.out BD3.out L3.out RD3.out r4 k4 f4)
    have S4 := Lib.hid (S3.out.drew_.kp k4 (RD3.out.offS S3.out.drew_ (.inl rfl)))
    have T4 := Lib.hid (T3.out.drew_.kp k4 (RD3.out.offS T3.out.drew_ (.inl rfl)))
    have C4 := Lib.hid ((X4.out.rb.old.cell (p := ad.add j) (by rw [block_of_add]; exact HLT.out)).trans HC0.out)
    clear r4 k4 f4
    first | (refine hK.out _ _ ?_ (fun hHeld => ?_)) | (go_wp2_with fail; refine hK.out _ _ ?_ (fun hHeld => ?_))
    ·(try dsimp only); exact ⟨S4.out, C4.out⟩
    clear hK K
    try simp only [Act.put, List.setIfInBounds_toArray, List.set_cons_zero, List.set_cons_succ]
    have HF5 : Hid ((doR ⟨n, es, p.n, p.z, q.n, q.z, s.n, s.z⟩ k r1 s1).tn.fit (20 * (j + 1))) := Lib.hid (by have h := fit_tn (fit_rn (d := ⟨n, es, p.n, p.z, q.n, q.z, s.n, s.z⟩) (r := thr k r1) (ePL k r1) (fit_ent HF1.out (k : Int))); rw [ePL_len] at h; exact ⟨room_mono h.1 (by omega), h.2⟩)
    obtain ⟨s5, hs5⟩ : ∃ s5, (doR ⟨n, es, p.n, p.z, q.n, q.z, s.n, s.z⟩ k r1 s1).tn = s5 := ⟨_, rfl⟩
    rw [hs5] at X4 HF5
    clear hs5 BU3 RB3 BD3 RD3 XD X1 K2 F2 E2 OK2 L3 SZ3 HF1 S3 T3 C3
    have hst := T4.out.run_store (P := Tryz.prog) (stA E) rfl (stA_one _)
    have hsE := stA_size E
    have kz : Kp [gT] w4 (w4.setRow gT (stA E)) := (Kp.refl _ _).setRow (.inl (by simp)) _
    have S5 := Lib.hid (S4.out.kp kz (by have h := HGT.out; simp; omega))
    have T5 := Lib.hid (T4.out.row (stA E))
    have X5 := Lib.hid (X4.out.kpS T4.out kz HGW.out)
    have C5 := Lib.hid ((X5.out.rb.old.cell (p := ad.add j) (by rw [block_of_add]; exact HLT.out)).trans HC0.out)
    refine rg_next (i := 7) (l := #[true, true, true, true, true, true, true, true]) (fuel := 0) (by kernel_rfl) rfl (by kernel_rfl) (by kernel_rfl) (fun K hK => ?_)
    go_simp
    skip
    first | (refine hK.out _ _ ?_ (fun hHeld => ?_)) | (go_wp2_with fail; refine hK.out _ _ ?_ (fun hHeld => ?_))
    ·(try dsimp only); exact ⟨S5.out, C5.out⟩
    clear hK K
    try simp only [Act.put, List.setIfInBounds_toArray, List.set_cons_zero, List.set_cons_succ]
    refine wpAnyH_done (by kernel_rfl) ?_ _
    clear kz hst hsE S4 T4 C4 X4
    obtain ⟨w5, hw5⟩ : ∃ w5, w4.setRow gT (stA E) = w5 := ⟨_, rfl⟩
    rw [hw5] at S5 T5 X5 C5 ⊢
    clear hw5
    obtain ⟨N, hN⟩ : ∃ v, s5.now = v := ⟨_, rfl⟩
    obtain ⟨F, hFv⟩ : ∃ v, s5.fast = v := ⟨_, rfl⟩
    obtain ⟨V, hV⟩ : ∃ v, s5.x.ch ⟨n, es, p.n, p.z, q.n, q.z, s.n, s.z⟩ false = v := ⟨_, rfl⟩
    obtain ⟨_, _, c2, c3, _, _, _⟩ := X5.out.rb.cells
    have d0 := X5.out.rb.ck.cell 0
    have d1 := X5.out.rb.ck.cell 1
    rw [rk0, hN] at d0
    rw [rk1, hFv] at d1
    have m1 : (N != N) = false := by simp
    have m2 : (F != F) = false := by simp
    have m5 : (V != V) = false := by simp
    have HN := Lib.hid hN
    have HFv := Lib.hid hFv
    have HV := Lib.hid hV
    clear hN hFv hV C5
    go_upto_region 19 with fail
    refine rg_begin (S := fun w' => Blk w' (W.heap.size + 1) 32 (stA E) ∧ Blk w' gT 32 (stA E) ∧ w'.cell? ⟨gR, 2, none⟩ = some (.pointer (some ⟨Q.p, 0, none⟩)) ∧ w'.cell? ⟨gR, 3, none⟩ = some (.pointer (some ⟨Q.c, 0, none⟩)) ∧ w'.cell? ⟨Q.c, 0, none⟩ = some (.int .i64 N) ∧ w'.cell? ⟨Q.c, 1, none⟩ = some (.bool F)) 37 #[false, false, false, false, false, false, false, false, false, false, false, false, false, false, false, false, false, false, false, false, false, false, false, false, false, false, false, false, false, false, false, false, false, false, false, false, false] (by kernel_rfl) (by kernel_rfl) (by kernel_rfl) ?_ (fun hHeld => ?_)
    ·exact ⟨S5.out.drew_, T5.out.drew_, c2, c3, d0, d1⟩
    have S6 : Hid (Blk w5.drew (W.heap.size + 1) 32 (stA E)) := Lib.hid S5.out.drew_
    have T6 : Hid (Blk w5.drew gT 32 (stA E)) := Lib.hid T5.out.drew_
    have X6 := Lib.hid (X5.out.kp0 (Kp.refl [] w5).drew)
    clear S5 T5 X5
    refine rgt 0 (some 93) (v := .agg (stA E)) rfl ?_ ?_
    ·(intro wS hSw; (try dsimp only at hSw); exact erow_load E rfl rfl hSw.1)
    refine rgt 1 (some 94) (v := .agg (stA E)) rfl ?_ ?_
    ·(intro wS hSw; (try dsimp only at hSw); exact erow_load E rfl rfl hSw.2.1)
    refine rgt 2 (some 95) (v := .bool false) rfl ?_ ?_
    ·(intro wS hSw; (try dsimp only at hSw); exact eexec_neq E rfl rfl rfl)
    refine rgu 3 (some 96) rfl ?_
    refine rgu 4 (some 97) rfl ?_
    refine rgu 6 (some 99) rfl ?_
    refine rgu 7 (some 100) rfl ?_
    refine rgu 8 (some 101) rfl ?_
    refine rgu 9 (some 102) rfl ?_
    refine rgu 10 (some 103) rfl ?_
    refine rgu 11 (some 104) rfl ?_
    refine rgu 12 (some 105) rfl ?_
    try simp only [Act.put, List.setIfInBounds_toArray, List.set_cons_zero, List.set_cons_succ]
    refine rg_next (i := 5) (l := #[true, true, true, true, true, true, true, true, true, true, true, true, true, false, false, false, false, false, false, false, false, false, false, false, false, false, false, false, false, false, false, false, false, false, false, false, false]) (fuel := 24) (by kernel_rfl) rfl (by kernel_rfl) (by kernel_rfl) (fun K hK => ?_)
    go_simp
    (go_at_call 15)
    refine (bnow_v X6.out.bu HN.out).mono ?_
    rintro e w' ⟨rfl, rfl⟩
    first | (refine hK.out _ _ ?_ (fun hHeld => ?_)) | (go_wp2_with fail; refine hK.out _ _ ?_ (fun hHeld => ?_))
    ·(try dsimp only); exact ⟨S6.out, T6.out, c2, c3, d0, d1⟩
    clear hK K
    refine rgt 13 (some 106) (v := .bool false) rfl ?_ ?_
    ·(intro wS hSw; (try dsimp only at hSw); go_simp)
    refine rgu 14 (some 107) rfl ?_
    refine rgu 15 (some 108) rfl ?_
    refine rgu 16 (some 109) rfl ?_
    refine rgu 18 (some 111) rfl ?_
    refine rgu 19 (some 112) rfl ?_
    refine rgu 20 (some 113) rfl ?_
    refine rgu 21 (some 114) rfl ?_
    refine rgu 22 (some 115) rfl ?_
    refine rgu 23 (some 116) rfl ?_
    refine rgu 24 (some 117) rfl ?_
    try simp only [Act.put, List.setIfInBounds_toArray, List.set_cons_zero, List.set_cons_succ]
    refine rg_next (i := 17) (l := #[true, true, true, true, true, true, true, true, true, true, true, true, true, true, true, true, true, true, true, true, true, true, true, true, true, false, false, false, false, false, false, false, false, false, false, false, false]) (fuel := 12) (by kernel_rfl) rfl (by kernel_rfl) (by kernel_rfl) (fun K hK => ?_)
    go_simp
    (go_at_call 16)
    refine (bfast_v X6.out.bu HFv.out).mono ?_
    rintro e w' ⟨rfl, rfl⟩
    first | (refine hK.out _ _ ?_ (fun hHeld => ?_)) | (go_wp2_with fail; refine hK.out _ _ ?_ (fun hHeld => ?_))
    ·(try dsimp only); exact ⟨S6.out, T6.out, c2, c3, d0, d1⟩
    clear hK K
    refine rgt 25 (some 118) (v := .bool false) rfl ?_ ?_
    ·(intro wS hSw; (try dsimp only at hSw); go_simp)
    refine rgu 26 (some 119) rfl ?_
    refine rgu 27 (some 120) rfl ?_
    refine rgu 28 (some 121) rfl ?_
    refine rgu 30 (some 123) rfl ?_
    refine rgu 31 (some 124) rfl ?_
    refine rgu 32 (some 125) rfl ?_
    refine rgu 33 (some 126) rfl ?_
    try simp only [Act.put, List.setIfInBounds_toArray, List.set_cons_zero, List.set_cons_succ]
    refine rg_next (i := 29) (l := #[true, true, true, true, true, true, true, true, true, true, true, true, true, true, true, true, true, true, true, true, true, true, true, true, true, true, true, true, true, true, true, true, true, true, false, false, false]) (fuel := 3) (by kernel_rfl) rfl (by kernel_rfl) (by kernel_rfl) (fun K hK => ?_)
    go_simp
    (go_at_call 17)
    refine (bchoose_v X6.out.bu HV.out).mono ?_
    rintro e w7 ⟨rfl, bb⟩
    have S7 := Lib.hid (S6.out.below bb S6.out.lt)
    have T7 := Lib.hid (T6.out.below bb T6.out.lt)
    have X7 := Lib.hid (X6.out.on bb)
    clear bb c2 c3 d0 d1 S6 T6 X6
    obtain ⟨_, _, c2, c3, _, _, _⟩ := X7.out.rb.cells
    have d0 := X7.out.rb.ck.cell 0
    have d1 := X7.out.rb.ck.cell 1
    rw [rk0, HN.out] at d0
    rw [rk1, HFv.out] at d1
    first | (refine hK.out _ _ ?_ (fun hHeld => ?_)) | (go_wp2_with fail; refine hK.out _ _ ?_ (fun hHeld => ?_))
    ·(try dsimp only); exact ⟨S7.out, T7.out, c2, c3, d0, d1⟩
    clear hK K
    try simp only [Act.put, List.setIfInBounds_toArray, List.set_cons_zero, List.set_cons_succ]
    refine rg_next (i := 34) (l := #[true, true, true, true, true, true, true, true, true, true, true, true, true, true, true, true, true, true, true, true, true, true, true, true, true, true, true, true, true, true, true, true, true, true, true, false, false]) (fuel := 2) (by kernel_rfl) rfl (by kernel_rfl) (by kernel_rfl) (fun K hK => ?_)
    go_simp
    (go_at_call 18)
    refine (rhchoose_v X7.out.rb.pg X7.out.bu.pg.ok X7.out.bu.pg.gd (X7.out.rb.rw HCQ.out).e HV.out).mono ?_
    rintro e w8 ⟨rfl, bb⟩
    have S8 := Lib.hid (S7.out.below bb S7.out.lt)
    have T8 := Lib.hid (T7.out.below bb T7.out.lt)
    have X8 := Lib.hid (X7.out.on bb)
    clear bb c2 c3 d0 d1 S7 T7 X7
    obtain ⟨_, _, c2, c3, _, _, _⟩ := X8.out.rb.cells
    have d0 := X8.out.rb.ck.cell 0
    have d1 := X8.out.rb.ck.cell 1
    rw [rk0, HN.out] at d0
    rw [rk1, HFv.out] at d1
    first | (refine hK.out _ _ ?_ (fun hHeld => ?_)) | (go_wp2_with fail; refine hK.out _ _ ?_ (fun hHeld => ?_))
    ·(try dsimp only); exact ⟨S8.out, T8.out, c2, c3, d0, d1⟩
    clear hK K
    refine rgt 35 (some 128) (v := .bool false) rfl ?_ ?_
    ·(intro wS hSw; (try dsimp only at hSw); go_simp)
    refine rgu 36 (some 129) rfl ?_
    try simp only [Act.put, List.setIfInBounds_toArray, List.set_cons_zero, List.set_cons_succ]
    refine wpAnyH_done (by kernel_rfl) ?_ _
    clear c2 c3 d0 d1
    go_wp2_with fail
    go_roundw
    case rel => exact ⟨j + 1, by omega, by go_num, E, s5, _, _, _, HEO.out, S8.out, T8.out, X8.out, HF5.out⟩
    case measure => simp [intOf]; omega
   ·skip
    go_upto_region 17 with fail
    refine rg_begin (S := fun w' => Blk w' gT 32 (stA r1) ∧ w'.cell? (ad.add j) = some (.int .u8 (k : Int))) 8 #[false, false, false, false, false, false, false, false] (by kernel_rfl) (by kernel_rfl) (by kernel_rfl) ?_ (fun hHeld => ?_)
    ·exact ⟨T1.out.drew_, C1.out⟩
    refine rgu 0 (some 79) rfl ?_
    refine rgu 2 (some 81) rfl ?_
    refine rgu 3 (some 82) rfl ?_
    refine rgu 4 (some 83) rfl ?_
    refine rgu 5 (some 84) rfl ?_
    try simp only [Act.put, List.setIfInBounds_toArray, List.set_cons_zero, List.set_cons_succ]
    refine rg_next (i := 1) (l := #[true, true, true, true, true, true, false, false]) (fuel := 2) (by kernel_rfl) rfl (by kernel_rfl) (by kernel_rfl) (fun K hK => ?_)
    refine wp_load_row 32 (.tmp 4) rfl (W.heap.size + 1) (by rfl) 32 (stA r1) (0, 0) _ S1.out.drew_ Tryz.underlying32 rfl (H8.out r1) ?_
    refine hK.out _ _ ?_ (fun hHeld => ?_)
    ·(try dsimp only); exact ⟨T1.out.drew_, C1.out⟩
    clear hK K
    try simp only [Act.put, List.setIfInBounds_toArray, List.set_cons_zero, List.set_cons_succ]
    refine rg_next (i := 6) (l := #[true, true, true, true, true, true, true, false]) (fuel := 1) (by kernel_rfl) rfl (by kernel_rfl) (by kernel_rfl) (fun K hK => ?_)
    go_simp
    go_at_call 13
    refine (edo_no _ k r1 _ hk).mono ?_
    rintro e w2 ⟨rfl, hb⟩
    have X2 := Lib.hid (XD.out.on hb)
    have S2 := Lib.hid (S1.out.drew_.below hb S1.out.drew_.lt)
    have T2 := Lib.hid (T1.out.drew_.below hb T1.out.drew_.lt)
    have C2 := Lib.hid ((X2.out.rb.old.cell (p := ad.add j) (by rw [block_of_add]; exact HLT.out)).trans HC0.out)
    clear hb
    first | (refine hK.out _ _ ?_ (fun hHeld => ?_)) | (go_wp2_with fail; refine hK.out _ _ ?_ (fun hHeld => ?_))
    ·(try dsimp only); exact ⟨T2.out, C2.out⟩
    clear hK K
    try simp only [Act.put, List.setIfInBounds_toArray, List.set_cons_zero, List.set_cons_succ]
    have HEO := HRR1
    have hst := S2.out.run_store (P := Tryz.prog) (stA r1) rfl (stA_one _)
    have hsE := stA_size r1
    have kz : Kp [W.heap.size + 1] w2 (w2.setRow (W.heap.size + 1) (stA r1)) := (Kp.refl _ _).setRow (.inl (by simp)) _
    have hne : gT ≠ W.heap.size + 1 := HGT.out
    have S3 := Lib.hid (S2.out.row (stA r1))
    have T3 := Lib.hid (T2.out.kp kz (by simpa using hne))
    have C3 := Lib.hid ((kz.cell (p := ad.add j) (cell_lt C2.out) (by have := HLT.out; rw [block_of_add]; simp; omega)).trans C2.out)
    have X3 := Lib.hid (X2.out.kpS S2.out kz (by omega))
    clear kz hne S2 T2 C2 X2
    have hSr : (fun w' : World => Blk w' gT 32 (stA r1) ∧ w'.cell? (ad.add j) = some (.int .u8 (k : Int))) (w2.setRow (W.heap.size + 1) (stA r1)) := ⟨T3.out, C3.out⟩
    refine rg_next (i := 7) (l := #[true, true, true, true, true, true, true, true]) (fuel := 0) (by kernel_rfl) rfl (by kernel_rfl) (by kernel_rfl) (fun K hK => ?_)
    go_simp
    skip
    first | (refine hK.out _ _ ?_ (fun hHeld => ?_)) | (go_wp2_with fail; refine hK.out _ _ ?_ (fun hHeld => ?_))
    ·(try dsimp only); exact hSr
    clear hK K
    try simp only [Act.put, List.setIfInBounds_toArray, List.set_cons_zero, List.set_cons_succ]
    refine wpAnyH_done (by kernel_rfl) ?_ _
    clear hSr hst hsE
    obtain ⟨w3, hw3⟩ : ∃ w3, w2.setRow (W.heap.size + 1) (stA r1) = w3 := ⟨_, rfl⟩
    rw [hw3] at S3 T3 C3 X3 ⊢
    clear hw3
    go_upto_region 18 with fail
    refine rg_begin (S := fun w' => Blk w' (W.heap.size + 1) 32 (stA r1) ∧ w'.cell? (ad.add j) = some (.int .u8 (k : Int))) 8 #[false, false, false, false, false, false, false, false] (by kernel_rfl) (by kernel_rfl) (by kernel_rfl) ?_ (fun hHeld => ?_)
    ·exact ⟨S3.out.drew_, C3.out⟩
    refine rgu 0 (some 86) rfl ?_
    refine rgu 2 (some 88) rfl ?_
    refine rgu 3 (some 89) rfl ?_
    refine rgu 4 (some 90) rfl ?_
    refine rgu 5 (some 91) rfl ?_
    try simp only [Act.put, List.setIfInBounds_toArray, List.set_cons_zero, List.set_cons_succ]
    refine rg_next (i := 1) (l := #[true, true, true, true, true, true, false, false]) (fuel := 2) (by kernel_rfl) rfl (by kernel_rfl) (by kernel_rfl) (fun K hK => ?_)
    refine wp_load_row 32 (.tmp 13) rfl gT (by rfl) 32 (stA r1) (0, 0) _ T3.out.drew_ Tryz.underlying32 rfl (H8.out r1) ?_
    refine hK.out _ _ ?_ (fun hHeld => ?_)
    ·(try dsimp only); exact ⟨S3.out.drew_, C3.out⟩
    clear hK K
    try simp only [Act.put, List.setIfInBounds_toArray, List.set_cons_zero, List.set_cons_succ]
    refine rg_next (i := 6) (l := #[true, true, true, true, true, true, true, false]) (fuel := 1) (by kernel_rfl) rfl (by kernel_rfl) (by kernel_rfl) (fun K hK => ?_)
    go_simp
    go_at_call 14
    refine (rdo_no _ k r1 _ hk).mono ?_
    rintro e w4 ⟨rfl, hb⟩
    have X4 := Lib.hid (BX.on (X3.out.kp0 (Kp.refl [] w3).drew) hb)
    have S4 := Lib.hid (S3.out.drew_.below hb S3.out.drew_.lt)
    have T4 := Lib.hid (T3.out.drew_.below hb T3.out.drew_.lt)
    have C4 := Lib.hid ((X4.out.rb.old.cell (p := ad.add j) (by rw [block_of_add]; exact HLT.out)).trans HC0.out)
    clear hb
    first | (refine hK.out _ _ ?_ (fun hHeld => ?_)) | (go_wp2_with fail; refine hK.out _ _ ?_ (fun hHeld => ?_))
    ·(try dsimp only); exact ⟨S4.out, C4.out⟩
    clear hK K
    try simp only [Act.put, List.setIfInBounds_toArray, List.set_cons_zero, List.set_cons_succ]
    have HF5 : Hid (s1.fit (20 * (j + 1))) := Lib.hid ⟨room_mono HF1.out.1 (by omega), HF1.out.2⟩
    obtain ⟨s5, hs5⟩ : ∃ s5, s1 = s5 := ⟨_, rfl⟩
    rw [hs5] at X4 HF5
    clear hs5 X3 XD X1 HF1 S3 T3 C3
    have hst := T4.out.run_store (P := Tryz.prog) (stA r1) rfl (stA_one _)
    have hsE := stA_size r1
    have kz : Kp [gT] w4 (w4.setRow gT (stA r1)) := (Kp.refl _ _).setRow (.inl (by simp)) _
    have S5 := Lib.hid (S4.out.kp kz (by have h := HGT.out; simp; omega))
    have T5 := Lib.hid (T4.out.row (stA r1))
    have X5 := Lib.hid (X4.out.kpS T4.out kz HGW.out)
    have C5 := Lib.hid ((X5.out.rb.old.cell (p := ad.add j) (by rw [block_of_add]; exact HLT.out)).trans HC0.out)
    refine rg_next (i := 7) (l := #[true, true, true, true, true, true, true, true]) (fuel := 0) (by kernel_rfl) rfl (by kernel_rfl) (by kernel_rfl) (fun K hK => ?_)
    go_simp
    skip
    first | (refine hK.out _ _ ?_ (fun hHeld => ?_)) | (go_wp2_with fail; refine hK.out _ _ ?_ (fun hHeld => ?_))
    ·(try dsimp only); exact ⟨S5.out, C5.out⟩
    clear hK K
    try simp only [Act.put, List.setIfInBounds_toArray, List.set_cons_zero, List.set_cons_succ]
    refine wpAnyH_done (by kernel_rfl) ?_ _
    clear kz hst hsE S4 T4 C4 X4
    obtain ⟨w5, hw5⟩ : ∃ w5, w4.setRow gT (stA r1) = w5 := ⟨_, rfl⟩
    rw [hw5] at S5 T5 X5 C5 ⊢
    clear hw5
    obtain ⟨N, hN⟩ : ∃ v, s5.now = v := ⟨_, rfl⟩
    obtain ⟨F, hFv⟩ : ∃ v, s5.fast = v := ⟨_, rfl⟩
    obtain ⟨V, hV⟩ : ∃ v, s5.x.ch ⟨n, es, p.n, p.z, q.n, q.z, s.n, s.z⟩ false = v := ⟨_, rfl⟩
    obtain ⟨_, _, c2, c3, _, _, _⟩ := X5.out.rb.cells
    have d0 := X5.out.rb.ck.cell 0
    have d1 := X5.out.rb.ck.cell 1
    rw [rk0, hN] at d0
    rw [rk1, hFv] at d1
    have m1 : (N != N) = false := by simp
    have m2 : (F != F) = false := by simp
    have m5 : (V != V) = false := by simp
    have HN := Lib.hid hN
    have HFv := Lib.hid hFv
    have HV := Lib.hid hV
    clear hN hFv hV C5
    go_upto_region 19 with fail
    refine rg_begin (S := fun w' => Blk w' (W.heap.size + 1) 32 (stA r1) ∧ Blk w' gT 32 (stA r1) ∧ w'.cell? ⟨gR, 2, none⟩ = some (.pointer (some ⟨Q.p, 0, none⟩)) ∧ w'.cell? ⟨gR, 3, none⟩ = some (.pointer (some ⟨Q.c, 0, none⟩)) ∧ w'.cell? ⟨Q.c, 0, none⟩ = some (.int .i64 N) ∧ w'.cell? ⟨Q.c, 1, none⟩ = some (.bool F)) 37 #[false, false, false, false, false, false, false, false, false, false, false, false, false, false, false, false, false, false, false, false, false, false, false, false, false, false, false, false, false, false, false, false, false, false, false, false, false] (by kernel_rfl) (by kernel_rfl) (by kernel_rfl) ?_ (fun hHeld => ?_)
    ·exact ⟨S5.out.drew_, T5.out.drew_, c2, c3, d0, d1⟩
    have S6 : Hid (Blk w5.drew (W.heap.size + 1) 32 (stA r1)) := Lib.hid S5.out.drew_
    have T6 : Hid (Blk w5.drew gT 32 (stA r1)) := Lib.hid T5.out.drew_
    have X6 := Lib.hid (X5.out.kp0 (Kp.refl [] w5).drew)
    clear S5 T5 X5
    refine rgt 0 (some 93) (v := .agg (stA r1)) rfl ?_ ?_
    ·(intro wS hSw; (try dsimp only at hSw); exact erow_load r1 rfl rfl hSw.1)
    refine rgt 1 (some 94) (v := .agg (stA r1)) rfl ?_ ?_
    ·(intro wS hSw; (try dsimp only at hSw); exact erow_load r1 rfl rfl hSw.2.1)
    refine rgt 2 (some 95) (v := .bool false) rfl ?_ ?_
    ·(intro wS hSw; (try dsimp only at hSw); exact eexec_neq r1 rfl rfl rfl)
    refine rgu 3 (some 96) rfl ?_
    refine rgu 4 (some 97) rfl ?_
    refine rgu 6 (some 99) rfl ?_
    refine rgu 7 (some 100) rfl ?_
    refine rgu 8 (some 101) rfl ?_
    refine rgu 9 (some 102) rfl ?_
    refine rgu 10 (some 103) rfl ?_
    refine rgu 11 (some 104) rfl ?_
    refine rgu 12 (some 105) rfl ?_
    try simp only [Act.put, List.setIfInBounds_toArray, List.set_cons_zero, List.set_cons_succ]
    refine rg_next (i := 5) (l := #[true, true, true, true, true, true, true, true, true, true, true, true, true, false, false, false, false, false, false, false, false, false, false, false, false, false, false, false, false, false, false, false, false, false, false, false, false]) (fuel := 24) (by kernel_rfl) rfl (by kernel_rfl) (by kernel_rfl) (fun K hK => ?_)
    go_simp
    (go_at_call 15)
    refine (bnow_v X6.out.bu HN.out).mono ?_
    rintro e w' ⟨rfl, rfl⟩
    first | (refine hK.out _ _ ?_ (fun hHeld => ?_)) | (go_wp2_with fail; refine hK.out _ _ ?_ (fun hHeld => ?_))
    ·(try dsimp only); exact ⟨S6.out, T6.out, c2, c3, d0, d1⟩
    clear hK K
    refine rgt 13 (some 106) (v := .bool false) rfl ?_ ?_
    ·(intro wS hSw; (try dsimp only at hSw); go_simp)
    refine rgu 14 (some 107) rfl ?_
    refine rgu 15 (some 108) rfl ?_
    refine rgu 16 (some 109) rfl ?_
    refine rgu 18 (some 111) rfl ?_
    refine rgu 19 (some 112) rfl ?_
    refine rgu 20 (some 113) rfl ?_
    refine rgu 21 (some 114) rfl ?_
    refine rgu 22 (some 115) rfl ?_
    refine rgu 23 (some 116) rfl ?_
    refine rgu 24 (some 117) rfl ?_
    try simp only [Act.put, List.setIfInBounds_toArray, List.set_cons_zero, List.set_cons_succ]
    refine rg_next (i := 17) (l := #[true, true, true, true, true, true, true, true, true, true, true, true, true, true, true, true, true, true, true, true, true, true, true, true, true, false, false, false, false, false, false, false, false, false, false, false, false]) (fuel := 12) (by kernel_rfl) rfl (by kernel_rfl) (by kernel_rfl) (fun K hK => ?_)
    go_simp
    (go_at_call 16)
    refine (bfast_v X6.out.bu HFv.out).mono ?_
    rintro e w' ⟨rfl, rfl⟩
    first | (refine hK.out _ _ ?_ (fun hHeld => ?_)) | (go_wp2_with fail; refine hK.out _ _ ?_ (fun hHeld => ?_))
    ·(try dsimp only); exact ⟨S6.out, T6.out, c2, c3, d0, d1⟩
    clear hK K
    refine rgt 25 (some 118) (v := .bool false) rfl ?_ ?_
    ·(intro wS hSw; (try dsimp only at hSw); go_simp)
    refine rgu 26 (some 119) rfl ?_
    refine rgu 27 (some 120) rfl ?_
    refine rgu 28 (some 121) rfl ?_
    refine rgu 30 (some 123) rfl ?_
    refine rgu 31 (some 124) rfl ?_
    refine rgu 32 (some 125) rfl ?_
    refine rgu 33 (some 126) rfl ?_
    try simp only [Act.put, List.setIfInBounds_toArray, List.set_cons_zero, List.set_cons_succ]
    refine rg_next (i := 29) (l := #[true, true, true, true, true, true, true, true, true, true, true, true, true, true, true, true, true, true, true, true, true, true, true, true, true, true, true, true, true, true, true, true, true, true, false, false, false]) (fuel := 3) (by kernel_rfl) rfl (by kernel_rfl) (by kernel_rfl) (fun K hK => ?_)
    go_simp
    (go_at_call 17)
    refine (bchoose_v X6.out.bu HV.out).mono ?_
    rintro e w7 ⟨rfl, bb⟩
    have S7 := Lib.hid (S6.out.below bb S6.out.lt)
    have T7 := Lib.hid (T6.out.below bb T6.out.lt)
    have X7 := Lib.hid (X6.out.on bb)
    clear bb c2 c3 d0 d1 S6 T6 X6
    obtain ⟨_, _, c2, c3, _, _, _⟩ := X7.out.rb.cells
    have d0 := X7.out.rb.ck.cell 0
    have d1 := X7.out.rb.ck.cell 1
    rw [rk0, HN.out] at d0
    rw [rk1, HFv.out] at d1
    first | (refine hK.out _ _ ?_ (fun hHeld => ?_)) | (go_wp2_with fail; refine hK.out _ _ ?_ (fun hHeld => ?_))
    ·(try dsimp only); exact ⟨S7.out, T7.out, c2, c3, d0, d1⟩
    clear hK K
    try simp only [Act.put, List.setIfInBounds_toArray, List.set_cons_zero, List.set_cons_succ]
    refine rg_next (i := 34) (l := #[true, true, true, true, true, true, true, true, true, true, true, true, true, true, true, true, true, true, true, true, true, true, true, true, true, true, true, true, true, true, true, true, true, true, true, false, false]) (fuel := 2) (by kernel_rfl) rfl (by kernel_rfl) (by kernel_rfl) (fun K hK => ?_)
    go_simp
    (go_at_call 18)
    refine (rhchoose_v X7.out.rb.pg X7.out.bu.pg.ok X7.out.bu.pg.gd (X7.out.rb.rw HCQ.out).e HV.out).mono ?_
    rintro e w8 ⟨rfl, bb⟩
    have S8 := Lib.hid (S7.out.below bb S7.out.lt)
    have T8 := Lib.hid (T7.out.below bb T7.out.lt)
    have X8 := Lib.hid (X7.out.on bb)
    clear bb c2 c3 d0 d1 S7 T7 X7
    obtain ⟨_, _, c2, c3, _, _, _⟩ := X8.out.rb.cells
    have d0 := X8.out.rb.ck.cell 0
    have d1 := X8.out.rb.ck.cell 1
    rw [rk0, HN.out] at d0
    rw [rk1, HFv.out] at d1
    first | (refine hK.out _ _ ?_ (fun hHeld => ?_)) | (go_wp2_with fail; refine hK.out _ _ ?_ (fun hHeld => ?_))
    ·(try dsimp only); exact ⟨S8.out, T8.out, c2, c3, d0, d1⟩
    clear hK K
    refine rgt 35 (some 128) (v := .bool false) rfl ?_ ?_
    ·(intro wS hSw; (try dsimp only at hSw); go_simp)
    refine rgu 36 (some 129) rfl ?_
    try simp only [Act.put, List.setIfInBounds_toArray, List.set_cons_zero, List.set_cons_succ]
    refine wpAnyH_done (by kernel_rfl) ?_ _
    clear c2 c3 d0 d1
    go_wp2_with fail
    go_roundw
    case rel => exact ⟨j + 1, by omega, by go_num, r1, s5, _, _, _, HEO.out, S8.out, T8.out, X8.out, HF5.out⟩
    case measure => simp [intOf]; omega
  ·obtain rfl : j = n2 := by omega
   have HX1 := X1.out.rb.tr
   rw [accL_cells] at HX1
   obtain ⟨At, ct, htv, _, _, Y2, _, _⟩ := own_frow (by decide) HX1
   have htv : t1 = .slice At s1.tl.length ct := htv
   subst htv
   have hlen : s1.tl.length ≤ 1000000 := by have := HF1.out.1.2.2.2; omega
   have HLEN := Lib.hid hlen
   have HY2 : Hid (FRow wr.drew 5 At s1.tl.length (accF s1.tl)) := Lib.hid Y2
   have X6 := Lib.hid (X1.out.kp0 (Kp.refl [] wr).drew)
   have c1 : wr.drew.cell? ⟨gR, 1, none⟩ = some (.slice (some ⟨Q.m, 0, none⟩) 8192 Q.mc) := X6.out.rb.cells.2.1
   have c6 : wr.drew.cell? ⟨gR, 6, none⟩ = some (.slice At s1.tl.length ct) := X6.out.rb.cells.2.2.2.2.2.2
   have c2 : wr.drew.cell? ⟨gR, 2, none⟩ = some (.pointer (some ⟨Q.p, 0, none⟩)) := X6.out.rb.cells.2.2.1
   have hrn : (runs s1.f 8192).length ≤ 1048576 := by have := runs_len s1.f 8192; omega
   obtain ⟨L, hL⟩ : ∃ L, (runs s1.f 8192).length = L := ⟨_, rfl⟩
   rw [hL] at hrn
   have HRNL := Lib.hid hrn
   have HL := Lib.hid hL
   obtain ⟨Sv, hSv⟩ : ∃ v, stC s1.x = v := ⟨_, rfl⟩
   have HSv := Lib.hid hSv
   clear HX1 Y2 X1 hlen hrn hL hSv S1 T1
   go_upto_region 21 with fail
   refine rg_begin (S := fun w' => w'.cell? ⟨gR, 1, none⟩ = some (.slice (some ⟨Q.m, 0, none⟩) 8192 Q.mc) ∧ w'.cell? ⟨gR, 6, none⟩ = some (.slice At s1.tl.length ct) ∧ w'.cell? ⟨gR, 2, none⟩ = some (.pointer (some ⟨Q.p, 0, none⟩))) 28 #[false, false, false, false, false, false, false, false, false, false, false, false, false, false, false, false, false, false, false, false, false, false, false, false, false, false, false, false] (by kernel_rfl) (by kernel_rfl) (by kernel_rfl) ?_ (fun hHeld => ?_)
   ·exact ⟨c1, c6, c2⟩
   refine rgu 0 (some 130) rfl ?_
   refine rgu 2 (some 132) rfl ?_
   refine rgu 3 (some 133) rfl ?_
   refine rgu 4 (some 134) rfl ?_
   refine rgu 5 (some 135) rfl ?_
   try simp only [Act.put, List.setIfInBounds_toArray, List.set_cons_zero, List.set_cons_succ]
   refine rg_next (i := 1) (l := #[true, true, true, true, true, true, false, false, false, false, false, false, false, false, false, false, false, false, false, false, false, false, false, false, false, false, false, false]) (fuel := 22) (by kernel_rfl) rfl (by kernel_rfl) (by kernel_rfl) (fun K hK => ?_)
   go_simp
   (go_at_call 20)
   refine (btrace_any X6.out.bu HLEN.out).mono ?_
   rintro e u1 ⟨A3, c3, rfl, _, _, y1, _, _, bb⟩
   have HY2' := Lib.hid (FRow.keep HY2.out bb)
   have HY3 := Lib.hid y1
   clear HY2 y1
   have X7 := Lib.hid (X6.out.on bb)
   clear bb c1 c6 c2 X6
   have c1 : u1.cell? ⟨gR, 1, none⟩ = some (.slice (some ⟨Q.m, 0, none⟩) 8192 Q.mc) := X7.out.rb.cells.2.1
   have c6 : u1.cell? ⟨gR, 6, none⟩ = some (.slice At s1.tl.length ct) := X7.out.rb.cells.2.2.2.2.2.2
   have c2 : u1.cell? ⟨gR, 2, none⟩ = some (.pointer (some ⟨Q.p, 0, none⟩)) := X7.out.rb.cells.2.2.1
   first | (refine hK.out _ _ ?_ (fun hHeld => ?_)) | (go_wp2_with fail; refine hK.out _ _ ?_ (fun hHeld => ?_))
   ·(try dsimp only); exact ⟨c1, c6, c2⟩
   clear hK K
   try simp only [Act.put, List.setIfInBounds_toArray, List.set_cons_zero, List.set_cons_succ]
   refine rg_next (i := 6) (l := #[true, true, true, true, true, true, true, false, false, false, false, false, false, false, false, false, false, false, false, false, false, false, false, false, false, false, false, false]) (fuel := 21) (by kernel_rfl) rfl (by kernel_rfl) (by kernel_rfl) (fun K hK => ?_)
   go_simp
   (go_at_call 19)
   refine (rsame_any HY3.out HY2'.out HLEN.out).mono ?_
   rintro e u2 ⟨rfl, bb⟩
   clear HY2' HY3
   have X8 := Lib.hid (X7.out.on bb)
   clear bb c1 c6 c2 X7
   have c1 : u2.cell? ⟨gR, 1, none⟩ = some (.slice (some ⟨Q.m, 0, none⟩) 8192 Q.mc) := X8.out.rb.cells.2.1
   have c6 : u2.cell? ⟨gR, 6, none⟩ = some (.slice At s1.tl.length ct) := X8.out.rb.cells.2.2.2.2.2.2
   have c2 : u2.cell? ⟨gR, 2, none⟩ = some (.pointer (some ⟨Q.p, 0, none⟩)) := X8.out.rb.cells.2.2.1
   first | (refine hK.out _ _ ?_ (fun hHeld => ?_)) | (go_wp2_with fail; refine hK.out _ _ ?_ (fun hHeld => ?_))
   ·(try dsimp only); exact ⟨c1, c6, c2⟩
   clear hK K
   refine rgu 7 (some 137) rfl ?_
   refine rgu 8 (some 138) rfl ?_
   refine rgu 10 (some 140) rfl ?_
   refine rgu 11 (some 141) rfl ?_
   refine rgu 12 (some 142) rfl ?_
   refine rgu 13 (some 143) rfl ?_
   try simp only [Act.put, List.setIfInBounds_toArray, List.set_cons_zero, List.set_cons_succ]
   refine rg_next (i := 9) (l := #[true, true, true, true, true, true, true, true, true, true, true, true, true, true, false, false, false, false, false, false, false, false, false, false, false, false, false, false]) (fuel := 14) (by kernel_rfl) rfl (by kernel_rfl) (by kernel_rfl) (fun K hK => ?_)
   go_simp
   (go_at_call 22)
   refine (bram_any X8.out.bu).mono ?_
   rintro e u3 ⟨⟨v4, rs, B4, rfl, r1', r2'⟩, bb⟩
   obtain ⟨Ar, cr, rfl, Rr⟩ := prow_any r1' r2'
   have RR := Lib.hid Rr
   have RQ2 := Lib.hid r2'
   have X9 := Lib.hid (X8.out.on bb)
   clear bb c1 c6 c2 X8
   have c1 : u3.cell? ⟨gR, 1, none⟩ = some (.slice (some ⟨Q.m, 0, none⟩) 8192 Q.mc) := X9.out.rb.cells.2.1
   have c6 : u3.cell? ⟨gR, 6, none⟩ = some (.slice At s1.tl.length ct) := X9.out.rb.cells.2.2.2.2.2.2
   have c2 : u3.cell? ⟨gR, 2, none⟩ = some (.pointer (some ⟨Q.p, 0, none⟩)) := X9.out.rb.cells.2.2.1
   clear r1' r2' Rr
   rw [HL.out]
   first | (refine hK.out _ _ ?_ (fun hHeld => ?_)) | (go_wp2_with fail; refine hK.out _ _ ?_ (fun hHeld => ?_))
   ·(try dsimp only); exact ⟨c1, c6, c2⟩
   clear hK K
   try simp only [Act.put, List.setIfInBounds_toArray, List.set_cons_zero, List.set_cons_succ]
   refine rg_next (i := 14) (l := #[true, true, true, true, true, true, true, true, true, true, true, true, true, true, true, false, false, false, false, false, false, false, false, false, false, false, false, false]) (fuel := 13) (by kernel_rfl) rfl (by kernel_rfl) (by kernel_rfl) (fun K hK => ?_)
   go_simp
   (go_at_call 23)
   obtain ⟨C5, hC5, hA5⟩ := X9.out.rb.ram
   refine (refPieces_any (some ⟨Q.m, 0, none⟩) 8192 Q.mc s1.f X9.out.rb.cap.1 X9.out.rb.cap.2.1 (by decide) (irow_bat hC5 hA5 X9.out.bu.ok.2.2.2.2)).mono ?_
   rintro e u4 ⟨⟨v5, ts, rfl, r3, r4⟩, bb⟩
   obtain ⟨Aq, cq, rfl, Rq⟩ := prow_any r3 r4
   have RR4 := Lib.hid (PRow.keep RR.out bb)
   have HRQ := Lib.hid Rq
   have RQ4 := Lib.hid r4
   have X10 := Lib.hid (X9.out.on bb)
   clear bb c1 c6 c2 X9
   have c1 : u4.cell? ⟨gR, 1, none⟩ = some (.slice (some ⟨Q.m, 0, none⟩) 8192 Q.mc) := X10.out.rb.cells.2.1
   have c6 : u4.cell? ⟨gR, 6, none⟩ = some (.slice At s1.tl.length ct) := X10.out.rb.cells.2.2.2.2.2.2
   have c2 : u4.cell? ⟨gR, 2, none⟩ = some (.pointer (some ⟨Q.p, 0, none⟩)) := X10.out.rb.cells.2.2.1
   clear r3 r4 Rq RR hC5 hA5
   rw [HL.out]
   first | (refine hK.out _ _ ?_ (fun hHeld => ?_)) | (go_wp2_with fail; refine hK.out _ _ ?_ (fun hHeld => ?_))
   ·(try dsimp only); exact ⟨c1, c6, c2⟩
   clear hK K
   try simp only [Act.put, List.setIfInBounds_toArray, List.set_cons_zero, List.set_cons_succ]
   refine rg_next (i := 15) (l := #[true, true, true, true, true, true, true, true, true, true, true, true, true, true, true, true, false, false, false, false, false, false, false, false, false, false, false, false]) (fuel := 12) (by kernel_rfl) rfl (by kernel_rfl) (by kernel_rfl) (fun K hK => ?_)
   go_simp
   (go_at_call 21)
   refine (rsameP_yes Ar Aq L _ _ rs ts HRNL.out (by rw [← HL.out]; exact RR4.out) (by rw [← HL.out]; exact HRQ.out) (fun i hi => ?_)).mono ?_
   (· have h1 := RQ2.out i (by rw [HL.out]; exact hi); have h2 := RQ4.out i (by rw [HL.out]; exact hi); exact ⟨by rw [h1.1, h2.1], by rw [h1.2.1, h2.2.1], by rw [h1.2.2.1, h2.2.2.1]⟩)
   rintro e u5 ⟨rfl, bb⟩
   have X11 := Lib.hid (X10.out.on bb)
   clear bb c1 c6 c2 X10
   have c1 : u5.cell? ⟨gR, 1, none⟩ = some (.slice (some ⟨Q.m, 0, none⟩) 8192 Q.mc) := X11.out.rb.cells.2.1
   have c6 : u5.cell? ⟨gR, 6, none⟩ = some (.slice At s1.tl.length ct) := X11.out.rb.cells.2.2.2.2.2.2
   have c2 : u5.cell? ⟨gR, 2, none⟩ = some (.pointer (some ⟨Q.p, 0, none⟩)) := X11.out.rb.cells.2.2.1
   first | (refine hK.out _ _ ?_ (fun hHeld => ?_)) | (go_wp2_with fail; refine hK.out _ _ ?_ (fun hHeld => ?_))
   ·(try dsimp only); exact ⟨c1, c6, c2⟩
   clear hK K
   refine rgu 16 (some 146) rfl ?_
   refine rgu 17 (some 147) rfl ?_
   refine rgu 18 (some 148) rfl ?_
   refine rgu 20 (some 150) rfl ?_
   refine rgu 21 (some 151) rfl ?_
   refine rgu 22 (some 152) rfl ?_
   refine rgu 23 (some 153) rfl ?_
   try simp only [Act.put, List.setIfInBounds_toArray, List.set_cons_zero, List.set_cons_succ]
   refine rg_next (i := 19) (l := #[true, true, true, true, true, true, true, true, true, true, true, true, true, true, true, true, true, true, true, true, true, true, true, true, false, false, false, false]) (fuel := 4) (by kernel_rfl) rfl (by kernel_rfl) (by kernel_rfl) (fun K hK => ?_)
   go_simp
   (go_at_call 24)
   refine (bstatus_v st_ok X11.out.bu HSv.out).mono ?_
   rintro e u6 ⟨rfl, bb⟩
   have X12 := Lib.hid (X11.out.on bb)
   clear bb c1 c6 c2 X11
   have c1 : u6.cell? ⟨gR, 1, none⟩ = some (.slice (some ⟨Q.m, 0, none⟩) 8192 Q.mc) := X12.out.rb.cells.2.1
   have c6 : u6.cell? ⟨gR, 6, none⟩ = some (.slice At s1.tl.length ct) := X12.out.rb.cells.2.2.2.2.2.2
   have c2 : u6.cell? ⟨gR, 2, none⟩ = some (.pointer (some ⟨Q.p, 0, none⟩)) := X12.out.rb.cells.2.2.1
   first | (refine hK.out _ _ ?_ (fun hHeld => ?_)) | (go_wp2_with fail; refine hK.out _ _ ?_ (fun hHeld => ?_))
   ·(try dsimp only); exact ⟨c1, c6, c2⟩
   clear hK K
   try simp only [Act.put, List.setIfInBounds_toArray, List.set_cons_zero, List.set_cons_succ]
   refine rg_next (i := 24) (l := #[true, true, true, true, true, true, true, true, true, true, true, true, true, true, true, true, true, true, true, true, true, true, true, true, true, false, false, false]) (fuel := 3) (by kernel_rfl) rfl (by kernel_rfl) (by kernel_rfl) (fun K hK => ?_)
   go_simp
   (go_at_call 25)
   refine (rhstatus_v X12.out.rb.pg HSv.out).mono ?_
   rintro e u7 ⟨rfl, bb⟩
   have X13 := Lib.hid (X12.out.on bb)
   clear bb c1 c6 c2 X12
   have c1 : u7.cell? ⟨gR, 1, none⟩ = some (.slice (some ⟨Q.m, 0, none⟩) 8192 Q.mc) := X13.out.rb.cells.2.1
   have c6 : u7.cell? ⟨gR, 6, none⟩ = some (.slice At s1.tl.length ct) := X13.out.rb.cells.2.2.2.2.2.2
   have c2 : u7.cell? ⟨gR, 2, none⟩ = some (.pointer (some ⟨Q.p, 0, none⟩)) := X13.out.rb.cells.2.2.1
   first | (refine hK.out _ _ ?_ (fun hHeld => ?_)) | (go_wp2_with fail; refine hK.out _ _ ?_ (fun hHeld => ?_))
   ·(try dsimp only); exact ⟨c1, c6, c2⟩
   clear hK K
   refine rgt 25 (some 155) (v := .bool true) rfl ?_ ?_
   ·(intro wS hSw; (try dsimp only at hSw); (rw [← HSv.out]; unfold stC; go_simp))
   refine rgu 26 (some 156) rfl ?_
   refine rgu 27 (some 6) rfl ?_
   try simp only [Act.put, List.setIfInBounds_toArray, List.set_cons_zero, List.set_cons_succ]
   refine wpAnyH_done (by kernel_rfl) ?_ _
   go_wp2_with fail
   go_ret
   exact ⟨rfl, X13.out.rb.old⟩
end Go.Proofs.YtndhkdcdhpfajaaGreat
