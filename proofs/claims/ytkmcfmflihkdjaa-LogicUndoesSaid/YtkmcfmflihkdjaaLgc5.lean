/-
  Logic: the answer's Turn; what must be whatever is asked.
-/
import Derived.Test.YtkmcfmflihkdjaaLgc4
namespace Go.Proofs.Ytkmcfmflihkdjaa
open Go.RowKit
set_option linter.unusedVariables false
set_option linter.unusedSimpArgs false
set_option maxRecDepth 100000
theorem flgc_fin : ∀ p : Fin 256, ∀ c x y : Bool, flI (flS (flS (flS (p.val : Int) 1 c) 128 x) 2 y) 1 = c := by decide +kernel
theorem flg_dec' (p v : Int) (c : Bool) (p0 : 0 ≤ p) (p1 : p ≤ 255) : flI (lgR (flS p 1 c) v) 1 = c := by
  have := flgc_fin ⟨p.toNat, by omega⟩ c (bitB v 7) (v == 0)
  rwa [show ((⟨p.toNat, by omega⟩ : Fin 256).val : Int) = p by simp; omega] at this
theorem fl_same_fin : ∀ p : Fin 256, flS (p.val : Int) 1 (flI (p.val : Int) 1) = (p.val : Int) := by decide +kernel
theorem fl_same (p : Int) (p0 : 0 ≤ p) (p1 : p ≤ 255) : flS p 1 (flI p 1) = p := by
  have := fl_same_fin ⟨p.toNat, by omega⟩
  rwa [show ((⟨p.toNat, by omega⟩ : Fin 256).val : Int) = p by simp; omega] at this
set_option maxHeartbeats 4000000 in
theorem rturn_asl (v p : Int) (w : World) (v0 : 0 ≤ v) (v1 : v ≤ 255) (p0 : 0 ≤ p) (p1 : p ≤ 255) : Calls Try.prog 43 #[.int .u8 65, .int .u8 v, .int .u8 p] w fun e w' => e = .returned (.tuple #[.int .u8 (slV v false), .int .u8 (lgR (flS p 1 (bitB v 7)) (slV v false))]) ∧ Below w.heap.size w w' := by
  have L := Lib.hid (fun W => rsl_any v false W v0 v1)
  have I := fun W => risC_any p W p0 p1
  have S := fun W => rsetC_any p W p0 p1 (bitB v 7)
  obtain ⟨s0, s1⟩ := flS_bd p 1 (bitB v 7)
  obtain ⟨x0, x1⟩ : 0 ≤ slV v false ∧ slV v false ≤ 255 := slV_bd _ _
  have R := fun W => rres_any (flS p 1 (bitB v 7)) W s0 s1 (slV v false) x0 x1
  have HI := Lib.hid I
  have HS := Lib.hid S
  have HR := Lib.hid R
  clear I S R p0 p1 s0 s1 x0 x1
  go_enter Try.func43, Try.ntmps43
  go_wp2_with fail
  refine (HI.out _).mono ?_
  rintro e w' ⟨rfl, rfl⟩
  go_wp2_with fail
  refine (L.out _).mono ?_
  rintro e w1 ⟨rfl, b1⟩
  have B1 := Lib.hid b1
  clear b1
  go_wp2_with fail
  refine (HS.out _).mono ?_
  rintro e w2 ⟨rfl, b2⟩
  have B2 := Lib.hid (B1.out.trans (b2.mono B1.out.size))
  clear b2
  go_wp2_with fail
  refine (HR.out _).mono ?_
  rintro e w3 ⟨rfl, b3⟩
  have B3 := Lib.hid (B2.out.trans (b3.mono B2.out.size))
  clear b3
  go_wp2_with fail
  go_ret2
  exact ⟨rfl, B3.out⟩
set_option maxHeartbeats 4000000 in
theorem rturn_lsr (v p : Int) (w : World) (v0 : 0 ≤ v) (v1 : v ≤ 255) (p0 : 0 ≤ p) (p1 : p ≤ 255) : Calls Try.prog 43 #[.int .u8 76, .int .u8 v, .int .u8 p] w fun e w' => e = .returned (.tuple #[.int .u8 (srV v false), .int .u8 (lgR (flS p 1 (bitB v 0)) (srV v false))]) ∧ Below w.heap.size w w' := by
  have L := Lib.hid (fun W => rsr_any v false W v0 v1)
  have I := fun W => risC_any p W p0 p1
  have S := fun W => rsetC_any p W p0 p1 (bitB v 0)
  obtain ⟨s0, s1⟩ := flS_bd p 1 (bitB v 0)
  obtain ⟨x0, x1⟩ : 0 ≤ srV v false ∧ srV v false ≤ 255 := srV_bd _ _
  have R := fun W => rres_any (flS p 1 (bitB v 0)) W s0 s1 (srV v false) x0 x1
  have HI := Lib.hid I
  have HS := Lib.hid S
  have HR := Lib.hid R
  clear I S R p0 p1 s0 s1 x0 x1
  go_enter Try.func43, Try.ntmps43
  go_wp2_with fail
  refine (HI.out _).mono ?_
  rintro e w' ⟨rfl, rfl⟩
  go_wp2_with fail
  refine (L.out _).mono ?_
  rintro e w1 ⟨rfl, b1⟩
  have B1 := Lib.hid b1
  clear b1
  go_wp2_with fail
  refine (HS.out _).mono ?_
  rintro e w2 ⟨rfl, b2⟩
  have B2 := Lib.hid (B1.out.trans (b2.mono B1.out.size))
  clear b2
  go_wp2_with fail
  refine (HR.out _).mono ?_
  rintro e w3 ⟨rfl, b3⟩
  have B3 := Lib.hid (B2.out.trans (b3.mono B2.out.size))
  clear b3
  go_wp2_with fail
  go_ret2
  exact ⟨rfl, B3.out⟩
set_option maxHeartbeats 4000000 in
theorem rturn_rol (v p : Int) (w : World) (v0 : 0 ≤ v) (v1 : v ≤ 255) (p0 : 0 ≤ p) (p1 : p ≤ 255) : Calls Try.prog 43 #[.int .u8 82, .int .u8 v, .int .u8 p] w fun e w' => e = .returned (.tuple #[.int .u8 (slV v (flI p 1)), .int .u8 (lgR (flS p 1 (bitB v 7)) (slV v (flI p 1)))]) ∧ Below w.heap.size w w' := by
  have L := Lib.hid (fun W => rsl_any v (flI p 1) W v0 v1)
  have I := fun W => risC_any p W p0 p1
  have S := fun W => rsetC_any p W p0 p1 (bitB v 7)
  obtain ⟨s0, s1⟩ := flS_bd p 1 (bitB v 7)
  obtain ⟨x0, x1⟩ : 0 ≤ slV v (flI p 1) ∧ slV v (flI p 1) ≤ 255 := slV_bd _ _
  have R := fun W => rres_any (flS p 1 (bitB v 7)) W s0 s1 (slV v (flI p 1)) x0 x1
  have HI := Lib.hid I
  have HS := Lib.hid S
  have HR := Lib.hid R
  clear I S R p0 p1 s0 s1 x0 x1
  go_enter Try.func43, Try.ntmps43
  go_wp2_with fail
  refine (HI.out _).mono ?_
  rintro e w' ⟨rfl, rfl⟩
  go_wp2_with fail
  refine (L.out _).mono ?_
  rintro e w1 ⟨rfl, b1⟩
  have B1 := Lib.hid b1
  clear b1
  go_wp2_with fail
  refine (HS.out _).mono ?_
  rintro e w2 ⟨rfl, b2⟩
  have B2 := Lib.hid (B1.out.trans (b2.mono B1.out.size))
  clear b2
  go_wp2_with fail
  refine (HR.out _).mono ?_
  rintro e w3 ⟨rfl, b3⟩
  have B3 := Lib.hid (B2.out.trans (b3.mono B2.out.size))
  clear b3
  go_wp2_with fail
  go_ret2
  exact ⟨rfl, B3.out⟩
set_option maxHeartbeats 4000000 in
theorem rturn_ror (v p : Int) (w : World) (v0 : 0 ≤ v) (v1 : v ≤ 255) (p0 : 0 ≤ p) (p1 : p ≤ 255) : Calls Try.prog 43 #[.int .u8 79, .int .u8 v, .int .u8 p] w fun e w' => e = .returned (.tuple #[.int .u8 (srV v (flI p 1)), .int .u8 (lgR (flS p 1 (bitB v 0)) (srV v (flI p 1)))]) ∧ Below w.heap.size w w' := by
  have L := Lib.hid (fun W => rsr_any v (flI p 1) W v0 v1)
  have I := fun W => risC_any p W p0 p1
  have S := fun W => rsetC_any p W p0 p1 (bitB v 0)
  obtain ⟨s0, s1⟩ := flS_bd p 1 (bitB v 0)
  obtain ⟨x0, x1⟩ : 0 ≤ srV v (flI p 1) ∧ srV v (flI p 1) ≤ 255 := srV_bd _ _
  have R := fun W => rres_any (flS p 1 (bitB v 0)) W s0 s1 (srV v (flI p 1)) x0 x1
  have HI := Lib.hid I
  have HS := Lib.hid S
  have HR := Lib.hid R
  clear I S R p0 p1 s0 s1 x0 x1
  go_enter Try.func43, Try.ntmps43
  go_wp2_with fail
  refine (HI.out _).mono ?_
  rintro e w' ⟨rfl, rfl⟩
  go_wp2_with fail
  refine (L.out _).mono ?_
  rintro e w1 ⟨rfl, b1⟩
  have B1 := Lib.hid b1
  clear b1
  go_wp2_with fail
  refine (HS.out _).mono ?_
  rintro e w2 ⟨rfl, b2⟩
  have B2 := Lib.hid (B1.out.trans (b2.mono B1.out.size))
  clear b2
  go_wp2_with fail
  refine (HR.out _).mono ?_
  rintro e w3 ⟨rfl, b3⟩
  have B3 := Lib.hid (B2.out.trans (b3.mono B2.out.size))
  clear b3
  go_wp2_with fail
  go_ret2
  exact ⟨rfl, B3.out⟩
set_option maxHeartbeats 4000000 in
theorem rturn_inc (v p : Int) (w : World) (v0 : 0 ≤ v) (v1 : v ≤ 255) (p0 : 0 ≤ p) (p1 : p ≤ 255) : Calls Try.prog 43 #[.int .u8 73, .int .u8 v, .int .u8 p] w fun e w' => e = .returned (.tuple #[.int .u8 ((v + 1) % 256), .int .u8 (lgR p ((v + 1) % 256))]) ∧ Below w.heap.size w w' := by
  have I := fun W => risC_any p W p0 p1
  have S := fun W => rsetC_any p W p0 p1 (flI p 1)
  obtain ⟨s0, s1⟩ := flS_bd p 1 (flI p 1)
  obtain ⟨x0, x1⟩ : 0 ≤ (v + 1) % 256 ∧ (v + 1) % 256 ≤ 255 := ⟨by omega, by omega⟩
  have R := fun W => rres_any (flS p 1 (flI p 1)) W s0 s1 ((v + 1) % 256) x0 x1
  have same : flS p 1 (flI p 1) = p := fl_same p p0 p1
  rw [same] at S R
  have HI := Lib.hid I
  have HS := Lib.hid S
  have HR := Lib.hid R
  have B1 := Lib.hid (Below.refl w.heap.size w)
  clear I S R p0 p1 s0 s1 x0 x1
  go_enter Try.func43, Try.ntmps43
  go_wp2_with fail
  refine (HI.out _).mono ?_
  rintro e w' ⟨rfl, rfl⟩
  go_wp2_with fail
  refine (HS.out _).mono ?_
  rintro e w2 ⟨rfl, b2⟩
  have B2 := Lib.hid (B1.out.trans (b2.mono B1.out.size))
  clear b2
  go_wp2_with fail
  refine (HR.out _).mono ?_
  rintro e w3 ⟨rfl, b3⟩
  have B3 := Lib.hid (B2.out.trans (b3.mono B2.out.size))
  clear b3
  go_wp2_with fail
  go_ret2
  exact ⟨rfl, B3.out⟩
set_option maxHeartbeats 4000000 in
theorem rturn_dec (v p : Int) (w : World) (v0 : 0 ≤ v) (v1 : v ≤ 255) (p0 : 0 ≤ p) (p1 : p ≤ 255) : Calls Try.prog 43 #[.int .u8 68, .int .u8 v, .int .u8 p] w fun e w' => e = .returned (.tuple #[.int .u8 ((v - 1) % 256), .int .u8 (lgR p ((v - 1) % 256))]) ∧ Below w.heap.size w w' := by
  have I := fun W => risC_any p W p0 p1
  have S := fun W => rsetC_any p W p0 p1 (flI p 1)
  obtain ⟨s0, s1⟩ := flS_bd p 1 (flI p 1)
  obtain ⟨x0, x1⟩ : 0 ≤ (v - 1) % 256 ∧ (v - 1) % 256 ≤ 255 := ⟨by omega, by omega⟩
  have R := fun W => rres_any (flS p 1 (flI p 1)) W s0 s1 ((v - 1) % 256) x0 x1
  have same : flS p 1 (flI p 1) = p := fl_same p p0 p1
  rw [same] at S R
  have HI := Lib.hid I
  have HS := Lib.hid S
  have HR := Lib.hid R
  have B1 := Lib.hid (Below.refl w.heap.size w)
  clear I S R p0 p1 s0 s1 x0 x1
  go_enter Try.func43, Try.ntmps43
  go_wp2_with fail
  refine (HI.out _).mono ?_
  rintro e w' ⟨rfl, rfl⟩
  go_wp2_with fail
  refine (HS.out _).mono ?_
  rintro e w2 ⟨rfl, b2⟩
  have B2 := Lib.hid (B1.out.trans (b2.mono B1.out.size))
  clear b2
  go_wp2_with fail
  refine (HR.out _).mono ?_
  rintro e w3 ⟨rfl, b3⟩
  have B3 := Lib.hid (B2.out.trans (b3.mono B2.out.size))
  clear b3
  go_wp2_with fail
  go_ret2
  exact ⟨rfl, B3.out⟩
set_option maxHeartbeats 8000000 in
theorem live22 (w : World) : Calls Try.prog 24 #[] w fun e w' => e = .returned (.bool true) ∧ Below w.heap.size w w' := by
  go_enter Try.func24, Try.ntmps24
  go_wp2_with fail
  refine (lasl_any 129 0 _).mono ?_
  rw [show slV 129 false = 2 by decide +kernel, show lgR (flS 0 1 (bitB 129 7)) 2 = 1 by decide +kernel]
  rintro e w1 ⟨rfl, b1⟩
  have B1 := Lib.hid b1
  clear b1
  go_wp2_with fail
  refine (ltsb_any 15 240 0 _).mono ?_
  rw [show bits .or .u8 240 15 = 255 by decide +kernel, show ltS 15 240 0 = 194 by decide +kernel]
  rintro e w' ⟨rfl, rfl⟩
  go_wp2_with fail
  refine (chain_AI _).mono ?_
  rintro e w2 ⟨rfl, b2⟩
  have B2 := Lib.hid (B1.out.trans (b2.mono B1.out.size))
  clear b2
  go_wp2_with fail
  refine (ltest_any 1 2 0 _).mono ?_
  rw [show ltS 1 2 0 = 2 by decide +kernel]
  rintro e w' ⟨rfl, rfl⟩
  go_wp2_with fail
  go_ret
  exact ⟨rfl, B2.out.alloc B2.out.size _⟩
end Go.Proofs.Ytkmcfmflihkdjaa
