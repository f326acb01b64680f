/-
  Texts of these proofs, one behind the other: Mod9, Mod10.
-/
import Derived.Test.YtdhnnegigjjoeaaDoorKMD27
import Derived.Test.YtdhnnegigjjoeaaDoorKMD25
import Derived.Test.YtdhnnegigjjoeaaDoorKMD17
namespace Go.Proofs.YtdhnnegigjjoeaaDoor
open Go.RowKit
set_option linter.unusedVariables false
set_option linter.unusedSimpArgs false
set_option maxRecDepth 100000
set_option maxHeartbeats 8000000 in
theorem mmean_1 (ad : Addr) (c : Nat) (z : Nat → Int) (b : Int) (b0 : 0 ≤ b) (b1 : b ≤ 65535) (hc : 1 ≤ c) (w : World) (R : IRow w .u8 (some ad) 1 z) : Calls Tryd.prog 40 #[.int .u8 1, .slice (some ad) 1 c, .int .u16 b] w fun e w' => e = .returned (.string (mkS (opdU 1 z b))) ∧ Below w.heap.size w w' := by
  have hD := fun W (Q : IRow W .u8 (some ad) 1 z) => mdist_any 1 (some ad) 1 c z hc W Q
  have eD : dstP 1 1 z = #[.int .u8 (0), .bool false] := rfl
  rw [eD] at hD
  clear eD
  obtain ⟨z00, z01⟩ := (R.bd 0 (by decide))
  have hT := fun W => mtarget_any b (0) b0 b1 (by omega) (by omega) W
  obtain ⟨t, ht⟩ : ∃ t, tgtP b (0) = t := ⟨_, rfl⟩
  have t0 : 0 ≤ t := by rw [← ht]; unfold tgtP; omega
  have t1 : t ≤ 65535 := by rw [← ht]; unfold tgtP; omega
  rw [ht] at hT
  have eT : True := by trivial
  clear ht
  have e1 : IntKind.u8.wrap t = t % 256 := u8_mod t
  have e2 : IntKind.u8.wrap (t / 256) = t / 256 := by rw [u8_mod]; omega
  obtain ⟨TO, hTO⟩ : ∃ TO, mkS (W2 t) = TO := ⟨_, rfl⟩
  have sTO : TO.size = 5 := by rw [← hTO, mkS_size', W2_len]
  have hNT := fun W => mnumN_2 (t % 256) (t / 256) (by omega) (by omega) (by omega) (by omega) W
  rw [show N2 (t % 256) (t / 256) = W2 t from rfl, hTO] at hNT
  have hS := fun W (Q : IRow W .u8 (some ad) 1 z) => mnum_1 (some ad) c z hc W Q
  obtain ⟨S, eS⟩ : ∃ S, mkS (N1 (z 0)) = S := ⟨_, rfl⟩
  have sS : S.size = 3 := by rw [← eS, mkS_size', N1_len]
  rw [eS] at hS
  have hE : (⟨#[35]⟩ ++ S : ByteArray) = mkS (opdU 1 z b) := by
    rw [← eS]
    show mkS [35] ++ mkS (N1 (z 0)) = _
    try simp only [mkS_cat]
    first | rfl | (unfold opdU; simp) | simp
  have HE := Lib.hid hE
  clear hE eT hTO eS
  have HR := Lib.hid R
  clear R
  go_enter Tryd.func40, Tryd.ntmps40
  go_wp2_with fail
  refine (hD _ HR.out).mono ?_
  rintro e w' ⟨rfl, rfl⟩
  go_wp2_with fail
  refine (hT _).mono ?_
  rintro e w' ⟨rfl, rfl⟩
  go_wp2_with (first
    | (go_at_call 34; refine (lo_any _ _).mono ?_; rintro e w' ⟨rfl, rfl⟩)
    | (go_at_call 53; refine (hi_any _ _).mono ?_; rintro e w' ⟨rfl, rfl⟩))
  refine (hNT _).mono ?_
  rintro e w1 ⟨rfl, hb1⟩
  have HB1 := Lib.hid hb1
  have HR1 := Lib.hid (HR.out.keep hb1)
  clear hD hT hNT hb1 HR
  go_wp2_with fail
  refine (hS _ HR1.out).mono ?_
  rintro e w2 ⟨rfl, hb⟩
  have HB2 := Lib.hid (HB1.out.trans (hb.mono HB1.out.size))
  clear hb
  go_wp2_with fail
  skip
  go_ret
  exact ⟨congrArg (fun s => Ending.returned (Value.string s)) HE.out, HB2.out⟩
set_option maxHeartbeats 8000000 in
theorem mmean_2 (ad : Addr) (c : Nat) (z : Nat → Int) (b : Int) (b0 : 0 ≤ b) (b1 : b ≤ 65535) (hc : 1 ≤ c) (w : World) (R : IRow w .u8 (some ad) 1 z) : Calls Tryd.prog 40 #[.int .u8 2, .slice (some ad) 1 c, .int .u16 b] w fun e w' => e = .returned (.string (mkS (opdU 2 z b))) ∧ Below w.heap.size w w' := by
  have hD := fun W (Q : IRow W .u8 (some ad) 1 z) => mdist_any 2 (some ad) 1 c z hc W Q
  have eD : dstP 2 1 z = #[.int .u8 (0), .bool false] := rfl
  rw [eD] at hD
  clear eD
  obtain ⟨z00, z01⟩ := (R.bd 0 (by decide))
  have hT := fun W => mtarget_any b (0) b0 b1 (by omega) (by omega) W
  obtain ⟨t, ht⟩ : ∃ t, tgtP b (0) = t := ⟨_, rfl⟩
  have t0 : 0 ≤ t := by rw [← ht]; unfold tgtP; omega
  have t1 : t ≤ 65535 := by rw [← ht]; unfold tgtP; omega
  rw [ht] at hT
  have eT : True := by trivial
  clear ht
  have e1 : IntKind.u8.wrap t = t % 256 := u8_mod t
  have e2 : IntKind.u8.wrap (t / 256) = t / 256 := by rw [u8_mod]; omega
  obtain ⟨TO, hTO⟩ : ∃ TO, mkS (W2 t) = TO := ⟨_, rfl⟩
  have sTO : TO.size = 5 := by rw [← hTO, mkS_size', W2_len]
  have hNT := fun W => mnumN_2 (t % 256) (t / 256) (by omega) (by omega) (by omega) (by omega) W
  rw [show N2 (t % 256) (t / 256) = W2 t from rfl, hTO] at hNT
  have hS := fun W (Q : IRow W .u8 (some ad) 1 z) => mnum_1 (some ad) c z hc W Q
  obtain ⟨S, eS⟩ : ∃ S, mkS (N1 (z 0)) = S := ⟨_, rfl⟩
  have sS : S.size = 3 := by rw [← eS, mkS_size', N1_len]
  rw [eS] at hS
  have hE : (S : ByteArray) = mkS (opdU 2 z b) := by
    rw [← eS]
    show mkS (N1 (z 0)) = _
    try simp only [mkS_cat]
    first | rfl | (unfold opdU; simp) | simp
  have HE := Lib.hid hE
  clear hE eT hTO eS
  have HR := Lib.hid R
  clear R
  go_enter Tryd.func40, Tryd.ntmps40
  go_wp2_with fail
  refine (hD _ HR.out).mono ?_
  rintro e w' ⟨rfl, rfl⟩
  go_wp2_with fail
  refine (hT _).mono ?_
  rintro e w' ⟨rfl, rfl⟩
  go_wp2_with (first
    | (go_at_call 34; refine (lo_any _ _).mono ?_; rintro e w' ⟨rfl, rfl⟩)
    | (go_at_call 53; refine (hi_any _ _).mono ?_; rintro e w' ⟨rfl, rfl⟩))
  refine (hNT _).mono ?_
  rintro e w1 ⟨rfl, hb1⟩
  have HB1 := Lib.hid hb1
  have HR1 := Lib.hid (HR.out.keep hb1)
  clear hD hT hNT hb1 HR
  go_wp2_with fail
  refine (hS _ HR1.out).mono ?_
  rintro e w2 ⟨rfl, hb⟩
  have HB2 := Lib.hid (HB1.out.trans (hb.mono HB1.out.size))
  clear hb
  go_wp2_with fail
  skip
  go_ret
  exact ⟨congrArg (fun s => Ending.returned (Value.string s)) HE.out, HB2.out⟩
set_option maxHeartbeats 8000000 in
theorem mmean_3 (ad : Addr) (c : Nat) (z : Nat → Int) (b : Int) (b0 : 0 ≤ b) (b1 : b ≤ 65535) (hc : 1 ≤ c) (w : World) (R : IRow w .u8 (some ad) 1 z) : Calls Tryd.prog 40 #[.int .u8 3, .slice (some ad) 1 c, .int .u16 b] w fun e w' => e = .returned (.string (mkS (opdU 3 z b))) ∧ Below w.heap.size w w' := by
  have hD := fun W (Q : IRow W .u8 (some ad) 1 z) => mdist_any 3 (some ad) 1 c z hc W Q
  have eD : dstP 3 1 z = #[.int .u8 (0), .bool false] := rfl
  rw [eD] at hD
  clear eD
  obtain ⟨z00, z01⟩ := (R.bd 0 (by decide))
  have hT := fun W => mtarget_any b (0) b0 b1 (by omega) (by omega) W
  obtain ⟨t, ht⟩ : ∃ t, tgtP b (0) = t := ⟨_, rfl⟩
  have t0 : 0 ≤ t := by rw [← ht]; unfold tgtP; omega
  have t1 : t ≤ 65535 := by rw [← ht]; unfold tgtP; omega
  rw [ht] at hT
  have eT : True := by trivial
  clear ht
  have e1 : IntKind.u8.wrap t = t % 256 := u8_mod t
  have e2 : IntKind.u8.wrap (t / 256) = t / 256 := by rw [u8_mod]; omega
  obtain ⟨TO, hTO⟩ : ∃ TO, mkS (W2 t) = TO := ⟨_, rfl⟩
  have sTO : TO.size = 5 := by rw [← hTO, mkS_size', W2_len]
  have hNT := fun W => mnumN_2 (t % 256) (t / 256) (by omega) (by omega) (by omega) (by omega) W
  rw [show N2 (t % 256) (t / 256) = W2 t from rfl, hTO] at hNT
  have hS := fun W (Q : IRow W .u8 (some ad) 1 z) => mnum_1 (some ad) c z hc W Q
  obtain ⟨S, eS⟩ : ∃ S, mkS (N1 (z 0)) = S := ⟨_, rfl⟩
  have sS : S.size = 3 := by rw [← eS, mkS_size', N1_len]
  rw [eS] at hS
  have hE : (S ++ ⟨#[44]⟩ ++ ⟨#[88]⟩ : ByteArray) = mkS (opdU 3 z b) := by
    rw [← eS]
    show mkS (N1 (z 0)) ++ mkS [44] ++ mkS [88] = _
    try simp only [mkS_cat]
    first | rfl | (unfold opdU; simp) | simp
  have HE := Lib.hid hE
  clear hE eT hTO eS
  have HR := Lib.hid R
  clear R
  go_enter Tryd.func40, Tryd.ntmps40
  go_wp2_with fail
  refine (hD _ HR.out).mono ?_
  rintro e w' ⟨rfl, rfl⟩
  go_wp2_with fail
  refine (hT _).mono ?_
  rintro e w' ⟨rfl, rfl⟩
  go_wp2_with (first
    | (go_at_call 34; refine (lo_any _ _).mono ?_; rintro e w' ⟨rfl, rfl⟩)
    | (go_at_call 53; refine (hi_any _ _).mono ?_; rintro e w' ⟨rfl, rfl⟩))
  refine (hNT _).mono ?_
  rintro e w1 ⟨rfl, hb1⟩
  have HB1 := Lib.hid hb1
  have HR1 := Lib.hid (HR.out.keep hb1)
  clear hD hT hNT hb1 HR
  go_wp2_with fail
  refine (hS _ HR1.out).mono ?_
  rintro e w2 ⟨rfl, hb⟩
  have HB2 := Lib.hid (HB1.out.trans (hb.mono HB1.out.size))
  clear hb
  go_wp2_with fail
  refine (mjoinN_2 S ⟨#[88]⟩ (by omega) (by decide) _).mono ?_
  rintro e w3 ⟨rfl, hb⟩
  have HB3 := Lib.hid (HB2.out.trans (hb.mono HB2.out.size))
  clear hb
  go_wp2_with fail
  skip
  go_ret
  exact ⟨congrArg (fun s => Ending.returned (Value.string s)) HE.out, HB3.out⟩
set_option maxHeartbeats 8000000 in
theorem mmean_4 (ad : Addr) (c : Nat) (z : Nat → Int) (b : Int) (b0 : 0 ≤ b) (b1 : b ≤ 65535) (hc : 1 ≤ c) (w : World) (R : IRow w .u8 (some ad) 1 z) : Calls Tryd.prog 40 #[.int .u8 4, .slice (some ad) 1 c, .int .u16 b] w fun e w' => e = .returned (.string (mkS (opdU 4 z b))) ∧ Below w.heap.size w w' := by
  have hD := fun W (Q : IRow W .u8 (some ad) 1 z) => mdist_any 4 (some ad) 1 c z hc W Q
  have eD : dstP 4 1 z = #[.int .u8 (0), .bool false] := rfl
  rw [eD] at hD
  clear eD
  obtain ⟨z00, z01⟩ := (R.bd 0 (by decide))
  have hT := fun W => mtarget_any b (0) b0 b1 (by omega) (by omega) W
  obtain ⟨t, ht⟩ : ∃ t, tgtP b (0) = t := ⟨_, rfl⟩
  have t0 : 0 ≤ t := by rw [← ht]; unfold tgtP; omega
  have t1 : t ≤ 65535 := by rw [← ht]; unfold tgtP; omega
  rw [ht] at hT
  have eT : True := by trivial
  clear ht
  have e1 : IntKind.u8.wrap t = t % 256 := u8_mod t
  have e2 : IntKind.u8.wrap (t / 256) = t / 256 := by rw [u8_mod]; omega
  obtain ⟨TO, hTO⟩ : ∃ TO, mkS (W2 t) = TO := ⟨_, rfl⟩
  have sTO : TO.size = 5 := by rw [← hTO, mkS_size', W2_len]
  have hNT := fun W => mnumN_2 (t % 256) (t / 256) (by omega) (by omega) (by omega) (by omega) W
  rw [show N2 (t % 256) (t / 256) = W2 t from rfl, hTO] at hNT
  have hS := fun W (Q : IRow W .u8 (some ad) 1 z) => mnum_1 (some ad) c z hc W Q
  obtain ⟨S, eS⟩ : ∃ S, mkS (N1 (z 0)) = S := ⟨_, rfl⟩
  have sS : S.size = 3 := by rw [← eS, mkS_size', N1_len]
  rw [eS] at hS
  have hE : (S ++ ⟨#[44]⟩ ++ ⟨#[89]⟩ : ByteArray) = mkS (opdU 4 z b) := by
    rw [← eS]
    show mkS (N1 (z 0)) ++ mkS [44] ++ mkS [89] = _
    try simp only [mkS_cat]
    first | rfl | (unfold opdU; simp) | simp
  have HE := Lib.hid hE
  clear hE eT hTO eS
  have HR := Lib.hid R
  clear R
  go_enter Tryd.func40, Tryd.ntmps40
  go_wp2_with fail
  refine (hD _ HR.out).mono ?_
  rintro e w' ⟨rfl, rfl⟩
  go_wp2_with fail
  refine (hT _).mono ?_
  rintro e w' ⟨rfl, rfl⟩
  go_wp2_with (first
    | (go_at_call 34; refine (lo_any _ _).mono ?_; rintro e w' ⟨rfl, rfl⟩)
    | (go_at_call 53; refine (hi_any _ _).mono ?_; rintro e w' ⟨rfl, rfl⟩))
  refine (hNT _).mono ?_
  rintro e w1 ⟨rfl, hb1⟩
  have HB1 := Lib.hid hb1
  have HR1 := Lib.hid (HR.out.keep hb1)
  clear hD hT hNT hb1 HR
  go_wp2_with fail
  refine (hS _ HR1.out).mono ?_
  rintro e w2 ⟨rfl, hb⟩
  have HB2 := Lib.hid (HB1.out.trans (hb.mono HB1.out.size))
  clear hb
  go_wp2_with fail
  refine (mjoinN_2 S ⟨#[89]⟩ (by omega) (by decide) _).mono ?_
  rintro e w3 ⟨rfl, hb⟩
  have HB3 := Lib.hid (HB2.out.trans (hb.mono HB2.out.size))
  clear hb
  go_wp2_with fail
  skip
  go_ret
  exact ⟨congrArg (fun s => Ending.returned (Value.string s)) HE.out, HB3.out⟩
set_option maxHeartbeats 8000000 in
theorem mmean_5 (ad : Addr) (c : Nat) (z : Nat → Int) (b : Int) (b0 : 0 ≤ b) (b1 : b ≤ 65535) (hc : 2 ≤ c) (w : World) (R : IRow w .u8 (some ad) 2 z) : Calls Tryd.prog 40 #[.int .u8 5, .slice (some ad) 2 c, .int .u16 b] w fun e w' => e = .returned (.string (mkS (opdU 5 z b))) ∧ Below w.heap.size w w' := by
  have hD := fun W (Q : IRow W .u8 (some ad) 2 z) => mdist_any 5 (some ad) 2 c z hc W Q
  have eD : dstP 5 2 z = #[.int .u8 (0), .bool false] := rfl
  rw [eD] at hD
  clear eD
  obtain ⟨z00, z01⟩ := (R.bd 0 (by decide))
  obtain ⟨z10, z11⟩ := (R.bd 1 (by decide))
  have hT := fun W => mtarget_any b (0) b0 b1 (by omega) (by omega) W
  obtain ⟨t, ht⟩ : ∃ t, tgtP b (0) = t := ⟨_, rfl⟩
  have t0 : 0 ≤ t := by rw [← ht]; unfold tgtP; omega
  have t1 : t ≤ 65535 := by rw [← ht]; unfold tgtP; omega
  rw [ht] at hT
  have eT : True := by trivial
  clear ht
  have e1 : IntKind.u8.wrap t = t % 256 := u8_mod t
  have e2 : IntKind.u8.wrap (t / 256) = t / 256 := by rw [u8_mod]; omega
  obtain ⟨TO, hTO⟩ : ∃ TO, mkS (W2 t) = TO := ⟨_, rfl⟩
  have sTO : TO.size = 5 := by rw [← hTO, mkS_size', W2_len]
  have hNT := fun W => mnumN_2 (t % 256) (t / 256) (by omega) (by omega) (by omega) (by omega) W
  rw [show N2 (t % 256) (t / 256) = W2 t from rfl, hTO] at hNT
  have hS := fun W (Q : IRow W .u8 (some ad) 2 z) => mnum_2 (some ad) c z hc W Q
  obtain ⟨S, eS⟩ : ∃ S, mkS (N2 (z 0) (z 1)) = S := ⟨_, rfl⟩
  have sS : S.size = 5 := by rw [← eS, mkS_size', N2_len]
  rw [eS] at hS
  have hE : (S : ByteArray) = mkS (opdU 5 z b) := by
    rw [← eS]
    show mkS (N2 (z 0) (z 1)) = _
    try simp only [mkS_cat]
    first | rfl | (unfold opdU; simp) | simp
  have HE := Lib.hid hE
  clear hE eT hTO eS
  have HR := Lib.hid R
  clear R
  go_enter Tryd.func40, Tryd.ntmps40
  go_wp2_with fail
  refine (hD _ HR.out).mono ?_
  rintro e w' ⟨rfl, rfl⟩
  go_wp2_with fail
  refine (hT _).mono ?_
  rintro e w' ⟨rfl, rfl⟩
  go_wp2_with (first
    | (go_at_call 34; refine (lo_any _ _).mono ?_; rintro e w' ⟨rfl, rfl⟩)
    | (go_at_call 53; refine (hi_any _ _).mono ?_; rintro e w' ⟨rfl, rfl⟩))
  refine (hNT _).mono ?_
  rintro e w1 ⟨rfl, hb1⟩
  have HB1 := Lib.hid hb1
  have HR1 := Lib.hid (HR.out.keep hb1)
  clear hD hT hNT hb1 HR
  go_wp2_with fail
  refine (hS _ HR1.out).mono ?_
  rintro e w2 ⟨rfl, hb⟩
  have HB2 := Lib.hid (HB1.out.trans (hb.mono HB1.out.size))
  clear hb
  go_wp2_with fail
  skip
  go_ret
  exact ⟨congrArg (fun s => Ending.returned (Value.string s)) HE.out, HB2.out⟩
set_option maxHeartbeats 8000000 in
theorem mmean_6 (ad : Addr) (c : Nat) (z : Nat → Int) (b : Int) (b0 : 0 ≤ b) (b1 : b ≤ 65535) (hc : 2 ≤ c) (w : World) (R : IRow w .u8 (some ad) 2 z) : Calls Tryd.prog 40 #[.int .u8 6, .slice (some ad) 2 c, .int .u16 b] w fun e w' => e = .returned (.string (mkS (opdU 6 z b))) ∧ Below w.heap.size w w' := by
  have hD := fun W (Q : IRow W .u8 (some ad) 2 z) => mdist_any 6 (some ad) 2 c z hc W Q
  have eD : dstP 6 2 z = #[.int .u8 (0), .bool false] := rfl
  rw [eD] at hD
  clear eD
  obtain ⟨z00, z01⟩ := (R.bd 0 (by decide))
  obtain ⟨z10, z11⟩ := (R.bd 1 (by decide))
  have hT := fun W => mtarget_any b (0) b0 b1 (by omega) (by omega) W
  obtain ⟨t, ht⟩ : ∃ t, tgtP b (0) = t := ⟨_, rfl⟩
  have t0 : 0 ≤ t := by rw [← ht]; unfold tgtP; omega
  have t1 : t ≤ 65535 := by rw [← ht]; unfold tgtP; omega
  rw [ht] at hT
  have eT : True := by trivial
  clear ht
  have e1 : IntKind.u8.wrap t = t % 256 := u8_mod t
  have e2 : IntKind.u8.wrap (t / 256) = t / 256 := by rw [u8_mod]; omega
  obtain ⟨TO, hTO⟩ : ∃ TO, mkS (W2 t) = TO := ⟨_, rfl⟩
  have sTO : TO.size = 5 := by rw [← hTO, mkS_size', W2_len]
  have hNT := fun W => mnumN_2 (t % 256) (t / 256) (by omega) (by omega) (by omega) (by omega) W
  rw [show N2 (t % 256) (t / 256) = W2 t from rfl, hTO] at hNT
  have hS := fun W (Q : IRow W .u8 (some ad) 2 z) => mnum_2 (some ad) c z hc W Q
  obtain ⟨S, eS⟩ : ∃ S, mkS (N2 (z 0) (z 1)) = S := ⟨_, rfl⟩
  have sS : S.size = 5 := by rw [← eS, mkS_size', N2_len]
  rw [eS] at hS
  have hE : (S ++ ⟨#[44]⟩ ++ ⟨#[88]⟩ : ByteArray) = mkS (opdU 6 z b) := by
    rw [← eS]
    show mkS (N2 (z 0) (z 1)) ++ mkS [44] ++ mkS [88] = _
    try simp only [mkS_cat]
    first | rfl | (unfold opdU; simp) | simp
  have HE := Lib.hid hE
  clear hE eT hTO eS
  have HR := Lib.hid R
  clear R
  go_enter Tryd.func40, Tryd.ntmps40
  go_wp2_with fail
  refine (hD _ HR.out).mono ?_
  rintro e w' ⟨rfl, rfl⟩
  go_wp2_with fail
  refine (hT _).mono ?_
  rintro e w' ⟨rfl, rfl⟩
  go_wp2_with (first
    | (go_at_call 34; refine (lo_any _ _).mono ?_; rintro e w' ⟨rfl, rfl⟩)
    | (go_at_call 53; refine (hi_any _ _).mono ?_; rintro e w' ⟨rfl, rfl⟩))
  refine (hNT _).mono ?_
  rintro e w1 ⟨rfl, hb1⟩
  have HB1 := Lib.hid hb1
  have HR1 := Lib.hid (HR.out.keep hb1)
  clear hD hT hNT hb1 HR
  go_wp2_with fail
  refine (hS _ HR1.out).mono ?_
  rintro e w2 ⟨rfl, hb⟩
  have HB2 := Lib.hid (HB1.out.trans (hb.mono HB1.out.size))
  clear hb
  go_wp2_with fail
  refine (mjoinN_2 S ⟨#[88]⟩ (by omega) (by decide) _).mono ?_
  rintro e w3 ⟨rfl, hb⟩
  have HB3 := Lib.hid (HB2.out.trans (hb.mono HB2.out.size))
  clear hb
  go_wp2_with fail
  skip
  go_ret
  exact ⟨congrArg (fun s => Ending.returned (Value.string s)) HE.out, HB3.out⟩
set_option maxHeartbeats 8000000 in
theorem mmean_7 (ad : Addr) (c : Nat) (z : Nat → Int) (b : Int) (b0 : 0 ≤ b) (b1 : b ≤ 65535) (hc : 2 ≤ c) (w : World) (R : IRow w .u8 (some ad) 2 z) : Calls Tryd.prog 40 #[.int .u8 7, .slice (some ad) 2 c, .int .u16 b] w fun e w' => e = .returned (.string (mkS (opdU 7 z b))) ∧ Below w.heap.size w w' := by
  have hD := fun W (Q : IRow W .u8 (some ad) 2 z) => mdist_any 7 (some ad) 2 c z hc W Q
  have eD : dstP 7 2 z = #[.int .u8 (0), .bool false] := rfl
  rw [eD] at hD
  clear eD
  obtain ⟨z00, z01⟩ := (R.bd 0 (by decide))
  obtain ⟨z10, z11⟩ := (R.bd 1 (by decide))
  have hT := fun W => mtarget_any b (0) b0 b1 (by omega) (by omega) W
  obtain ⟨t, ht⟩ : ∃ t, tgtP b (0) = t := ⟨_, rfl⟩
  have t0 : 0 ≤ t := by rw [← ht]; unfold tgtP; omega
  have t1 : t ≤ 65535 := by rw [← ht]; unfold tgtP; omega
  rw [ht] at hT
  have eT : True := by trivial
  clear ht
  have e1 : IntKind.u8.wrap t = t % 256 := u8_mod t
  have e2 : IntKind.u8.wrap (t / 256) = t / 256 := by rw [u8_mod]; omega
  obtain ⟨TO, hTO⟩ : ∃ TO, mkS (W2 t) = TO := ⟨_, rfl⟩
  have sTO : TO.size = 5 := by rw [← hTO, mkS_size', W2_len]
  have hNT := fun W => mnumN_2 (t % 256) (t / 256) (by omega) (by omega) (by omega) (by omega) W
  rw [show N2 (t % 256) (t / 256) = W2 t from rfl, hTO] at hNT
  have hS := fun W (Q : IRow W .u8 (some ad) 2 z) => mnum_2 (some ad) c z hc W Q
  obtain ⟨S, eS⟩ : ∃ S, mkS (N2 (z 0) (z 1)) = S := ⟨_, rfl⟩
  have sS : S.size = 5 := by rw [← eS, mkS_size', N2_len]
  rw [eS] at hS
  have hE : (S ++ ⟨#[44]⟩ ++ ⟨#[89]⟩ : ByteArray) = mkS (opdU 7 z b) := by
    rw [← eS]
    show mkS (N2 (z 0) (z 1)) ++ mkS [44] ++ mkS [89] = _
    try simp only [mkS_cat]
    first | rfl | (unfold opdU; simp) | simp
  have HE := Lib.hid hE
  clear hE eT hTO eS
  have HR := Lib.hid R
  clear R
  go_enter Tryd.func40, Tryd.ntmps40
  go_wp2_with fail
  refine (hD _ HR.out).mono ?_
  rintro e w' ⟨rfl, rfl⟩
  go_wp2_with fail
  refine (hT _).mono ?_
  rintro e w' ⟨rfl, rfl⟩
  go_wp2_with (first
    | (go_at_call 34; refine (lo_any _ _).mono ?_; rintro e w' ⟨rfl, rfl⟩)
    | (go_at_call 53; refine (hi_any _ _).mono ?_; rintro e w' ⟨rfl, rfl⟩))
  refine (hNT _).mono ?_
  rintro e w1 ⟨rfl, hb1⟩
  have HB1 := Lib.hid hb1
  have HR1 := Lib.hid (HR.out.keep hb1)
  clear hD hT hNT hb1 HR
  go_wp2_with fail
  refine (hS _ HR1.out).mono ?_
  rintro e w2 ⟨rfl, hb⟩
  have HB2 := Lib.hid (HB1.out.trans (hb.mono HB1.out.size))
  clear hb
  go_wp2_with fail
  refine (mjoinN_2 S ⟨#[89]⟩ (by omega) (by decide) _).mono ?_
  rintro e w3 ⟨rfl, hb⟩
  have HB3 := Lib.hid (HB2.out.trans (hb.mono HB2.out.size))
  clear hb
  go_wp2_with fail
  skip
  go_ret
  exact ⟨congrArg (fun s => Ending.returned (Value.string s)) HE.out, HB3.out⟩
set_option maxHeartbeats 8000000 in
theorem mmean_8 (ad : Addr) (c : Nat) (z : Nat → Int) (b : Int) (b0 : 0 ≤ b) (b1 : b ≤ 65535) (hc : 1 ≤ c) (w : World) (R : IRow w .u8 (some ad) 1 z) : Calls Tryd.prog 40 #[.int .u8 8, .slice (some ad) 1 c, .int .u16 b] w fun e w' => e = .returned (.string (mkS (opdU 8 z b))) ∧ Below w.heap.size w w' := by
  have hD := fun W (Q : IRow W .u8 (some ad) 1 z) => mdist_any 8 (some ad) 1 c z hc W Q
  have eD : dstP 8 1 z = #[.int .u8 (0), .bool false] := rfl
  rw [eD] at hD
  clear eD
  obtain ⟨z00, z01⟩ := (R.bd 0 (by decide))
  have hT := fun W => mtarget_any b (0) b0 b1 (by omega) (by omega) W
  obtain ⟨t, ht⟩ : ∃ t, tgtP b (0) = t := ⟨_, rfl⟩
  have t0 : 0 ≤ t := by rw [← ht]; unfold tgtP; omega
  have t1 : t ≤ 65535 := by rw [← ht]; unfold tgtP; omega
  rw [ht] at hT
  have eT : True := by trivial
  clear ht
  have e1 : IntKind.u8.wrap t = t % 256 := u8_mod t
  have e2 : IntKind.u8.wrap (t / 256) = t / 256 := by rw [u8_mod]; omega
  obtain ⟨TO, hTO⟩ : ∃ TO, mkS (W2 t) = TO := ⟨_, rfl⟩
  have sTO : TO.size = 5 := by rw [← hTO, mkS_size', W2_len]
  have hNT := fun W => mnumN_2 (t % 256) (t / 256) (by omega) (by omega) (by omega) (by omega) W
  rw [show N2 (t % 256) (t / 256) = W2 t from rfl, hTO] at hNT
  have hS := fun W (Q : IRow W .u8 (some ad) 1 z) => mnum_1 (some ad) c z hc W Q
  obtain ⟨S, eS⟩ : ∃ S, mkS (N1 (z 0)) = S := ⟨_, rfl⟩
  have sS : S.size = 3 := by rw [← eS, mkS_size', N1_len]
  rw [eS] at hS
  have hE : (⟨#[40]⟩ ++ S ++ ⟨#[41]⟩ : ByteArray) = mkS (opdU 8 z b) := by
    rw [← eS]
    show mkS [40] ++ mkS (N1 (z 0)) ++ mkS [41] = _
    try simp only [mkS_cat]
    first | rfl | (unfold opdU; simp) | simp
  have HE := Lib.hid hE
  clear hE eT hTO eS
  have HR := Lib.hid R
  clear R
  go_enter Tryd.func40, Tryd.ntmps40
  go_wp2_with fail
  refine (hD _ HR.out).mono ?_
  rintro e w' ⟨rfl, rfl⟩
  go_wp2_with fail
  refine (hT _).mono ?_
  rintro e w' ⟨rfl, rfl⟩
  go_wp2_with (first
    | (go_at_call 34; refine (lo_any _ _).mono ?_; rintro e w' ⟨rfl, rfl⟩)
    | (go_at_call 53; refine (hi_any _ _).mono ?_; rintro e w' ⟨rfl, rfl⟩))
  refine (hNT _).mono ?_
  rintro e w1 ⟨rfl, hb1⟩
  have HB1 := Lib.hid hb1
  have HR1 := Lib.hid (HR.out.keep hb1)
  clear hD hT hNT hb1 HR
  go_wp2_with fail
  refine (hS _ HR1.out).mono ?_
  rintro e w2 ⟨rfl, hb⟩
  have HB2 := Lib.hid (HB1.out.trans (hb.mono HB1.out.size))
  clear hb
  go_wp2_with fail
  refine (mwithin_any _ (by first | omega | (rw [ByteArray.size_append, ByteArray.size_append]; have q44 : (⟨#[44]⟩ : ByteArray).size = 1 := rfl;  have q88 : (⟨#[88]⟩ : ByteArray).size = 1 := rfl; omega)) _).mono ?_
  rintro e w' ⟨rfl, rfl⟩
  go_wp2_with fail
  skip
  go_ret
  exact ⟨congrArg (fun s => Ending.returned (Value.string s)) HE.out, HB2.out⟩
set_option maxHeartbeats 8000000 in
theorem mmean_9 (ad : Addr) (c : Nat) (z : Nat → Int) (b : Int) (b0 : 0 ≤ b) (b1 : b ≤ 65535) (hc : 1 ≤ c) (w : World) (R : IRow w .u8 (some ad) 1 z) : Calls Tryd.prog 40 #[.int .u8 9, .slice (some ad) 1 c, .int .u16 b] w fun e w' => e = .returned (.string (mkS (opdU 9 z b))) ∧ Below w.heap.size w w' := by
  have hD := fun W (Q : IRow W .u8 (some ad) 1 z) => mdist_any 9 (some ad) 1 c z hc W Q
  have eD : dstP 9 1 z = #[.int .u8 (0), .bool false] := rfl
  rw [eD] at hD
  clear eD
  obtain ⟨z00, z01⟩ := (R.bd 0 (by decide))
  have hT := fun W => mtarget_any b (0) b0 b1 (by omega) (by omega) W
  obtain ⟨t, ht⟩ : ∃ t, tgtP b (0) = t := ⟨_, rfl⟩
  have t0 : 0 ≤ t := by rw [← ht]; unfold tgtP; omega
  have t1 : t ≤ 65535 := by rw [← ht]; unfold tgtP; omega
  rw [ht] at hT
  have eT : True := by trivial
  clear ht
  have e1 : IntKind.u8.wrap t = t % 256 := u8_mod t
  have e2 : IntKind.u8.wrap (t / 256) = t / 256 := by rw [u8_mod]; omega
  obtain ⟨TO, hTO⟩ : ∃ TO, mkS (W2 t) = TO := ⟨_, rfl⟩
  have sTO : TO.size = 5 := by rw [← hTO, mkS_size', W2_len]
  have hNT := fun W => mnumN_2 (t % 256) (t / 256) (by omega) (by omega) (by omega) (by omega) W
  rw [show N2 (t % 256) (t / 256) = W2 t from rfl, hTO] at hNT
  have hS := fun W (Q : IRow W .u8 (some ad) 1 z) => mnum_1 (some ad) c z hc W Q
  obtain ⟨S, eS⟩ : ∃ S, mkS (N1 (z 0)) = S := ⟨_, rfl⟩
  have sS : S.size = 3 := by rw [← eS, mkS_size', N1_len]
  rw [eS] at hS
  have hE : (⟨#[40]⟩ ++ (S ++ ⟨#[44]⟩ ++ ⟨#[88]⟩) ++ ⟨#[41]⟩ : ByteArray) = mkS (opdU 9 z b) := by
    rw [← eS]
    show mkS [40] ++ (mkS (N1 (z 0)) ++ mkS [44] ++ mkS [88]) ++ mkS [41] = _
    try simp only [mkS_cat]
    first | rfl | (unfold opdU; simp) | simp
  have HE := Lib.hid hE
  clear hE eT hTO eS
  have HR := Lib.hid R
  clear R
  go_enter Tryd.func40, Tryd.ntmps40
  go_wp2_with fail
  refine (hD _ HR.out).mono ?_
  rintro e w' ⟨rfl, rfl⟩
  go_wp2_with fail
  refine (hT _).mono ?_
  rintro e w' ⟨rfl, rfl⟩
  go_wp2_with (first
    | (go_at_call 34; refine (lo_any _ _).mono ?_; rintro e w' ⟨rfl, rfl⟩)
    | (go_at_call 53; refine (hi_any _ _).mono ?_; rintro e w' ⟨rfl, rfl⟩))
  refine (hNT _).mono ?_
  rintro e w1 ⟨rfl, hb1⟩
  have HB1 := Lib.hid hb1
  have HR1 := Lib.hid (HR.out.keep hb1)
  clear hD hT hNT hb1 HR
  go_wp2_with fail
  refine (hS _ HR1.out).mono ?_
  rintro e w2 ⟨rfl, hb⟩
  have HB2 := Lib.hid (HB1.out.trans (hb.mono HB1.out.size))
  clear hb
  go_wp2_with fail
  refine (mjoinN_2 S ⟨#[88]⟩ (by omega) (by decide) _).mono ?_
  rintro e w3 ⟨rfl, hb⟩
  have HB3 := Lib.hid (HB2.out.trans (hb.mono HB2.out.size))
  clear hb
  go_wp2_with fail
  refine (mwithin_any _ (by first | omega | (rw [ByteArray.size_append, ByteArray.size_append]; have q44 : (⟨#[44]⟩ : ByteArray).size = 1 := rfl;  have q88 : (⟨#[88]⟩ : ByteArray).size = 1 := rfl; omega)) _).mono ?_
  rintro e w' ⟨rfl, rfl⟩
  go_wp2_with fail
  skip
  go_ret
  exact ⟨congrArg (fun s => Ending.returned (Value.string s)) HE.out, HB3.out⟩
set_option maxHeartbeats 8000000 in
theorem mmean_10 (ad : Addr) (c : Nat) (z : Nat → Int) (b : Int) (b0 : 0 ≤ b) (b1 : b ≤ 65535) (hc : 1 ≤ c) (w : World) (R : IRow w .u8 (some ad) 1 z) : Calls Tryd.prog 40 #[.int .u8 10, .slice (some ad) 1 c, .int .u16 b] w fun e w' => e = .returned (.string (mkS (opdU 10 z b))) ∧ Below w.heap.size w w' := by
  have hD := fun W (Q : IRow W .u8 (some ad) 1 z) => mdist_any 10 (some ad) 1 c z hc W Q
  have eD : dstP 10 1 z = #[.int .u8 (0), .bool false] := rfl
  rw [eD] at hD
  clear eD
  obtain ⟨z00, z01⟩ := (R.bd 0 (by decide))
  have hT := fun W => mtarget_any b (0) b0 b1 (by omega) (by omega) W
  obtain ⟨t, ht⟩ : ∃ t, tgtP b (0) = t := ⟨_, rfl⟩
  have t0 : 0 ≤ t := by rw [← ht]; unfold tgtP; omega
  have t1 : t ≤ 65535 := by rw [← ht]; unfold tgtP; omega
  rw [ht] at hT
  have eT : True := by trivial
  clear ht
  have e1 : IntKind.u8.wrap t = t % 256 := u8_mod t
  have e2 : IntKind.u8.wrap (t / 256) = t / 256 := by rw [u8_mod]; omega
  obtain ⟨TO, hTO⟩ : ∃ TO, mkS (W2 t) = TO := ⟨_, rfl⟩
  have sTO : TO.size = 5 := by rw [← hTO, mkS_size', W2_len]
  have hNT := fun W => mnumN_2 (t % 256) (t / 256) (by omega) (by omega) (by omega) (by omega) W
  rw [show N2 (t % 256) (t / 256) = W2 t from rfl, hTO] at hNT
  have hS := fun W (Q : IRow W .u8 (some ad) 1 z) => mnum_1 (some ad) c z hc W Q
  obtain ⟨S, eS⟩ : ∃ S, mkS (N1 (z 0)) = S := ⟨_, rfl⟩
  have sS : S.size = 3 := by rw [← eS, mkS_size', N1_len]
  rw [eS] at hS
  have hE : ((⟨#[40]⟩ ++ S ++ ⟨#[41]⟩) ++ ⟨#[44]⟩ ++ ⟨#[89]⟩ : ByteArray) = mkS (opdU 10 z b) := by
    rw [← eS]
    show (mkS [40] ++ mkS (N1 (z 0)) ++ mkS [41]) ++ mkS [44] ++ mkS [89] = _
    try simp only [mkS_cat]
    first | rfl | (unfold opdU; simp) | simp
  have HE := Lib.hid hE
  clear hE eT hTO eS
  have HR := Lib.hid R
  clear R
  go_enter Tryd.func40, Tryd.ntmps40
  go_wp2_with fail
  refine (hD _ HR.out).mono ?_
  rintro e w' ⟨rfl, rfl⟩
  go_wp2_with fail
  refine (hT _).mono ?_
  rintro e w' ⟨rfl, rfl⟩
  go_wp2_with (first
    | (go_at_call 34; refine (lo_any _ _).mono ?_; rintro e w' ⟨rfl, rfl⟩)
    | (go_at_call 53; refine (hi_any _ _).mono ?_; rintro e w' ⟨rfl, rfl⟩))
  refine (hNT _).mono ?_
  rintro e w1 ⟨rfl, hb1⟩
  have HB1 := Lib.hid hb1
  have HR1 := Lib.hid (HR.out.keep hb1)
  clear hD hT hNT hb1 HR
  go_wp2_with fail
  refine (hS _ HR1.out).mono ?_
  rintro e w2 ⟨rfl, hb⟩
  have HB2 := Lib.hid (HB1.out.trans (hb.mono HB1.out.size))
  clear hb
  go_wp2_with fail
  refine (mwithin_any S (by omega) _).mono ?_
  rintro e w' ⟨rfl, rfl⟩
  go_wp2_with fail
  refine (mjoinN_2 (⟨#[40]⟩ ++ S ++ ⟨#[41]⟩) ⟨#[89]⟩ (by rw [ByteArray.size_append, ByteArray.size_append]; have q40 : (⟨#[40]⟩ : ByteArray).size = 1 := rfl;  have q41 : (⟨#[41]⟩ : ByteArray).size = 1 := rfl; omega) (by decide) _).mono ?_
  rintro e w3 ⟨rfl, hb⟩
  have HB3 := Lib.hid (HB2.out.trans (hb.mono HB2.out.size))
  clear hb
  go_wp2_with fail
  skip
  go_ret
  exact ⟨congrArg (fun s => Ending.returned (Value.string s)) HE.out, HB3.out⟩
set_option maxHeartbeats 8000000 in
theorem mmean_11 (ad : Addr) (c : Nat) (z : Nat → Int) (b : Int) (b0 : 0 ≤ b) (b1 : b ≤ 65535) (hc : 1 ≤ c) (w : World) (R : IRow w .u8 (some ad) 1 z) : Calls Tryd.prog 40 #[.int .u8 11, .slice (some ad) 1 c, .int .u16 b] w fun e w' => e = .returned (.string (mkS (opdU 11 z b))) ∧ Below w.heap.size w w' := by
  have hD := fun W (Q : IRow W .u8 (some ad) 1 z) => mdist_any 11 (some ad) 1 c z hc W Q
  have eD : dstP 11 1 z = #[.int .u8 (z 0), .bool true] := rfl
  rw [eD] at hD
  clear eD
  obtain ⟨z00, z01⟩ := (R.bd 0 (by decide))
  have hT := fun W => mtarget_any b (z 0) b0 b1 (by omega) (by omega) W
  obtain ⟨t, ht⟩ : ∃ t, tgtP b (z 0) = t := ⟨_, rfl⟩
  have t0 : 0 ≤ t := by rw [← ht]; unfold tgtP; omega
  have t1 : t ≤ 65535 := by rw [← ht]; unfold tgtP; omega
  rw [ht] at hT
  have eT : opdU 11 z b = W2 t := by rw [← ht]; rfl
  clear ht
  have e1 : IntKind.u8.wrap t = t % 256 := u8_mod t
  have e2 : IntKind.u8.wrap (t / 256) = t / 256 := by rw [u8_mod]; omega
  obtain ⟨TO, hTO⟩ : ∃ TO, mkS (W2 t) = TO := ⟨_, rfl⟩
  have sTO : TO.size = 5 := by rw [← hTO, mkS_size', W2_len]
  have hNT := fun W => mnumN_2 (t % 256) (t / 256) (by omega) (by omega) (by omega) (by omega) W
  rw [show N2 (t % 256) (t / 256) = W2 t from rfl, hTO] at hNT
  have hE : (TO : ByteArray) = mkS (opdU 11 z b) := by
    rw [eT, ← hTO]
    skip
    skip
    skip
  have HE := Lib.hid hE
  clear hE eT hTO 
  have HR := Lib.hid R
  clear R
  go_enter Tryd.func40, Tryd.ntmps40
  go_wp2_with fail
  refine (hD _ HR.out).mono ?_
  rintro e w' ⟨rfl, rfl⟩
  go_wp2_with fail
  refine (hT _).mono ?_
  rintro e w' ⟨rfl, rfl⟩
  go_wp2_with (first
    | (go_at_call 34; refine (lo_any _ _).mono ?_; rintro e w' ⟨rfl, rfl⟩)
    | (go_at_call 53; refine (hi_any _ _).mono ?_; rintro e w' ⟨rfl, rfl⟩))
  refine (hNT _).mono ?_
  rintro e w1 ⟨rfl, hb1⟩
  have HB1 := Lib.hid hb1
  have HR1 := Lib.hid (HR.out.keep hb1)
  clear hD hT hNT hb1 HR
  go_wp2_with fail
  skip
  go_ret
  exact ⟨congrArg (fun s => Ending.returned (Value.string s)) HE.out, HB1.out⟩
set_option maxHeartbeats 8000000 in
theorem mmean_12 (ad : Addr) (c : Nat) (z : Nat → Int) (b : Int) (b0 : 0 ≤ b) (b1 : b ≤ 65535) (hc : 2 ≤ c) (w : World) (R : IRow w .u8 (some ad) 2 z) : Calls Tryd.prog 40 #[.int .u8 12, .slice (some ad) 2 c, .int .u16 b] w fun e w' => e = .returned (.string (mkS (opdU 12 z b))) ∧ Below w.heap.size w w' := by
  have hD := fun W (Q : IRow W .u8 (some ad) 2 z) => mdist_any 12 (some ad) 2 c z hc W Q
  have eD : dstP 12 2 z = #[.int .u8 (z 1), .bool true] := rfl
  rw [eD] at hD
  clear eD
  obtain ⟨z00, z01⟩ := (R.bd 0 (by decide))
  obtain ⟨z10, z11⟩ := (R.bd 1 (by decide))
  have hT := fun W => mtarget_any b (z 1) b0 b1 (by omega) (by omega) W
  obtain ⟨t, ht⟩ : ∃ t, tgtP b (z 1) = t := ⟨_, rfl⟩
  have t0 : 0 ≤ t := by rw [← ht]; unfold tgtP; omega
  have t1 : t ≤ 65535 := by rw [← ht]; unfold tgtP; omega
  rw [ht] at hT
  have eT : opdU 12 z b = N1 (z 0) ++ 44 :: W2 t := by rw [← ht]; rfl
  clear ht
  have e1 : IntKind.u8.wrap t = t % 256 := u8_mod t
  have e2 : IntKind.u8.wrap (t / 256) = t / 256 := by rw [u8_mod]; omega
  obtain ⟨TO, hTO⟩ : ∃ TO, mkS (W2 t) = TO := ⟨_, rfl⟩
  have sTO : TO.size = 5 := by rw [← hTO, mkS_size', W2_len]
  have hNT := fun W => mnumN_2 (t % 256) (t / 256) (by omega) (by omega) (by omega) (by omega) W
  rw [show N2 (t % 256) (t / 256) = W2 t from rfl, hTO] at hNT
  have hS := fun W => mnumN_1 (z 0) z00 z01 W
  obtain ⟨S, eS⟩ : ∃ S, mkS (N1 (z 0)) = S := ⟨_, rfl⟩
  have sS : S.size = 3 := by rw [← eS, mkS_size', N1_len]
  rw [eS] at hS
  have hE : (S ++ ⟨#[44]⟩ ++ TO : ByteArray) = mkS (opdU 12 z b) := by
    rw [eT, ← hTO, ← eS]
    show mkS (N1 (z 0)) ++ mkS [44] ++ mkS (W2 t) = _
    try simp only [mkS_cat]
    first | rfl | (unfold opdU; simp) | simp
  have HE := Lib.hid hE
  clear hE eT hTO eS
  have HR := Lib.hid R
  clear R
  go_enter Tryd.func40, Tryd.ntmps40
  go_wp2_with fail
  refine (hD _ HR.out).mono ?_
  rintro e w' ⟨rfl, rfl⟩
  go_wp2_with fail
  refine (hT _).mono ?_
  rintro e w' ⟨rfl, rfl⟩
  go_wp2_with (first
    | (go_at_call 34; refine (lo_any _ _).mono ?_; rintro e w' ⟨rfl, rfl⟩)
    | (go_at_call 53; refine (hi_any _ _).mono ?_; rintro e w' ⟨rfl, rfl⟩))
  refine (hNT _).mono ?_
  rintro e w1 ⟨rfl, hb1⟩
  have HB1 := Lib.hid hb1
  have HR1 := Lib.hid (HR.out.keep hb1)
  clear hD hT hNT hb1 HR
  have hc0 : w1.cell? ad = some (.int .u8 (z 0)) := HR1.out.cellv 0 (by decide)
  go_wp2_with fail
  refine (hS _).mono ?_
  rintro e w2 ⟨rfl, hb⟩
  have HB2 := Lib.hid (HB1.out.trans (hb.mono HB1.out.size))
  clear hb
  go_wp2_with fail
  refine (mjoinN_2 S TO (by omega) (by omega) _).mono ?_
  rintro e w3 ⟨rfl, hb⟩
  have HB3 := Lib.hid (HB2.out.trans (hb.mono HB2.out.size))
  clear hb
  go_wp2_with fail
  skip
  go_ret
  exact ⟨congrArg (fun s => Ending.returned (Value.string s)) HE.out, HB3.out⟩
set_option maxHeartbeats 8000000 in
theorem mmean_17 (ad : Addr) (c : Nat) (z : Nat → Int) (b : Int) (b0 : 0 ≤ b) (b1 : b ≤ 65535) (hc : 2 ≤ c) (w : World) (R : IRow w .u8 (some ad) 2 z) : Calls Tryd.prog 40 #[.int .u8 17, .slice (some ad) 2 c, .int .u16 b] w fun e w' => e = .returned (.string (mkS (opdU 17 z b))) ∧ Below w.heap.size w w' := by
  have hD := fun W (Q : IRow W .u8 (some ad) 2 z) => mdist_any 17 (some ad) 2 c z hc W Q
  have eD : dstP 17 2 z = #[.int .u8 (0), .bool false] := rfl
  rw [eD] at hD
  clear eD
  obtain ⟨z00, z01⟩ := (R.bd 0 (by decide))
  obtain ⟨z10, z11⟩ := (R.bd 1 (by decide))
  have hT := fun W => mtarget_any b (0) b0 b1 (by omega) (by omega) W
  obtain ⟨t, ht⟩ : ∃ t, tgtP b (0) = t := ⟨_, rfl⟩
  have t0 : 0 ≤ t := by rw [← ht]; unfold tgtP; omega
  have t1 : t ≤ 65535 := by rw [← ht]; unfold tgtP; omega
  rw [ht] at hT
  have eT : True := by trivial
  clear ht
  have e1 : IntKind.u8.wrap t = t % 256 := u8_mod t
  have e2 : IntKind.u8.wrap (t / 256) = t / 256 := by rw [u8_mod]; omega
  obtain ⟨TO, hTO⟩ : ∃ TO, mkS (W2 t) = TO := ⟨_, rfl⟩
  have sTO : TO.size = 5 := by rw [← hTO, mkS_size', W2_len]
  have hNT := fun W => mnumN_2 (t % 256) (t / 256) (by omega) (by omega) (by omega) (by omega) W
  rw [show N2 (t % 256) (t / 256) = W2 t from rfl, hTO] at hNT
  have hS := fun W (Q : IRow W .u8 (some ad) 2 z) => mnum_2 (some ad) c z hc W Q
  obtain ⟨S, eS⟩ : ∃ S, mkS (N2 (z 0) (z 1)) = S := ⟨_, rfl⟩
  have sS : S.size = 5 := by rw [← eS, mkS_size', N2_len]
  rw [eS] at hS
  have hE : (⟨#[40]⟩ ++ S ++ ⟨#[41]⟩ : ByteArray) = mkS (opdU 17 z b) := by
    rw [← eS]
    show mkS [40] ++ mkS (N2 (z 0) (z 1)) ++ mkS [41] = _
    try simp only [mkS_cat]
    first | rfl | (unfold opdU; simp) | simp
  have HE := Lib.hid hE
  clear hE eT hTO eS
  have HR := Lib.hid R
  clear R
  go_enter Tryd.func40, Tryd.ntmps40
  go_wp2_with fail
  refine (hD _ HR.out).mono ?_
  rintro e w' ⟨rfl, rfl⟩
  go_wp2_with fail
  refine (hT _).mono ?_
  rintro e w' ⟨rfl, rfl⟩
  go_wp2_with (first
    | (go_at_call 34; refine (lo_any _ _).mono ?_; rintro e w' ⟨rfl, rfl⟩)
    | (go_at_call 53; refine (hi_any _ _).mono ?_; rintro e w' ⟨rfl, rfl⟩))
  refine (hNT _).mono ?_
  rintro e w1 ⟨rfl, hb1⟩
  have HB1 := Lib.hid hb1
  have HR1 := Lib.hid (HR.out.keep hb1)
  clear hD hT hNT hb1 HR
  go_wp2_with fail
  refine (hS _ HR1.out).mono ?_
  rintro e w2 ⟨rfl, hb⟩
  have HB2 := Lib.hid (HB1.out.trans (hb.mono HB1.out.size))
  clear hb
  go_wp2_with fail
  refine (mwithin_any _ (by first | omega | (rw [ByteArray.size_append, ByteArray.size_append]; have q44 : (⟨#[44]⟩ : ByteArray).size = 1 := rfl;  have q88 : (⟨#[88]⟩ : ByteArray).size = 1 := rfl; omega)) _).mono ?_
  rintro e w' ⟨rfl, rfl⟩
  go_wp2_with fail
  skip
  go_ret
  exact ⟨congrArg (fun s => Ending.returned (Value.string s)) HE.out, HB2.out⟩
set_option maxHeartbeats 8000000 in
theorem mmean_18 (ad : Addr) (c : Nat) (z : Nat → Int) (b : Int) (b0 : 0 ≤ b) (b1 : b ≤ 65535) (hc : 2 ≤ c) (w : World) (R : IRow w .u8 (some ad) 2 z) : Calls Tryd.prog 40 #[.int .u8 18, .slice (some ad) 2 c, .int .u16 b] w fun e w' => e = .returned (.string (mkS (opdU 18 z b))) ∧ Below w.heap.size w w' := by
  have hD := fun W (Q : IRow W .u8 (some ad) 2 z) => mdist_any 18 (some ad) 2 c z hc W Q
  have eD : dstP 18 2 z = #[.int .u8 (0), .bool false] := rfl
  rw [eD] at hD
  clear eD
  obtain ⟨z00, z01⟩ := (R.bd 0 (by decide))
  obtain ⟨z10, z11⟩ := (R.bd 1 (by decide))
  have hT := fun W => mtarget_any b (0) b0 b1 (by omega) (by omega) W
  obtain ⟨t, ht⟩ : ∃ t, tgtP b (0) = t := ⟨_, rfl⟩
  have t0 : 0 ≤ t := by rw [← ht]; unfold tgtP; omega
  have t1 : t ≤ 65535 := by rw [← ht]; unfold tgtP; omega
  rw [ht] at hT
  have eT : True := by trivial
  clear ht
  have e1 : IntKind.u8.wrap t = t % 256 := u8_mod t
  have e2 : IntKind.u8.wrap (t / 256) = t / 256 := by rw [u8_mod]; omega
  obtain ⟨TO, hTO⟩ : ∃ TO, mkS (W2 t) = TO := ⟨_, rfl⟩
  have sTO : TO.size = 5 := by rw [← hTO, mkS_size', W2_len]
  have hNT := fun W => mnumN_2 (t % 256) (t / 256) (by omega) (by omega) (by omega) (by omega) W
  rw [show N2 (t % 256) (t / 256) = W2 t from rfl, hTO] at hNT
  have hS := fun W (Q : IRow W .u8 (some ad) 2 z) => mnum_2 (some ad) c z hc W Q
  obtain ⟨S, eS⟩ : ∃ S, mkS (N2 (z 0) (z 1)) = S := ⟨_, rfl⟩
  have sS : S.size = 5 := by rw [← eS, mkS_size', N2_len]
  rw [eS] at hS
  have hE : (⟨#[40]⟩ ++ (S ++ ⟨#[44]⟩ ++ ⟨#[88]⟩) ++ ⟨#[41]⟩ : ByteArray) = mkS (opdU 18 z b) := by
    rw [← eS]
    show mkS [40] ++ (mkS (N2 (z 0) (z 1)) ++ mkS [44] ++ mkS [88]) ++ mkS [41] = _
    try simp only [mkS_cat]
    first | rfl | (unfold opdU; simp) | simp
  have HE := Lib.hid hE
  clear hE eT hTO eS
  have HR := Lib.hid R
  clear R
  go_enter Tryd.func40, Tryd.ntmps40
  go_wp2_with fail
  refine (hD _ HR.out).mono ?_
  rintro e w' ⟨rfl, rfl⟩
  go_wp2_with fail
  refine (hT _).mono ?_
  rintro e w' ⟨rfl, rfl⟩
  go_wp2_with (first
    | (go_at_call 34; refine (lo_any _ _).mono ?_; rintro e w' ⟨rfl, rfl⟩)
    | (go_at_call 53; refine (hi_any _ _).mono ?_; rintro e w' ⟨rfl, rfl⟩))
  refine (hNT _).mono ?_
  rintro e w1 ⟨rfl, hb1⟩
  have HB1 := Lib.hid hb1
  have HR1 := Lib.hid (HR.out.keep hb1)
  clear hD hT hNT hb1 HR
  go_wp2_with fail
  refine (hS _ HR1.out).mono ?_
  rintro e w2 ⟨rfl, hb⟩
  have HB2 := Lib.hid (HB1.out.trans (hb.mono HB1.out.size))
  clear hb
  go_wp2_with fail
  refine (mjoinN_2 S ⟨#[88]⟩ (by omega) (by decide) _).mono ?_
  rintro e w3 ⟨rfl, hb⟩
  have HB3 := Lib.hid (HB2.out.trans (hb.mono HB2.out.size))
  clear hb
  go_wp2_with fail
  refine (mwithin_any _ (by first | omega | (rw [ByteArray.size_append, ByteArray.size_append]; have q44 : (⟨#[44]⟩ : ByteArray).size = 1 := rfl;  have q88 : (⟨#[88]⟩ : ByteArray).size = 1 := rfl; omega)) _).mono ?_
  rintro e w' ⟨rfl, rfl⟩
  go_wp2_with fail
  skip
  go_ret
  exact ⟨congrArg (fun s => Ending.returned (Value.string s)) HE.out, HB3.out⟩
end Go.Proofs.YtdhnnegigjjoeaaDoor
namespace Go.Proofs.YtdhnnegigjjoeaaDoor
open Go.RowKit
set_option linter.unusedVariables false
set_option linter.unusedSimpArgs false
set_option maxRecDepth 100000
set_option maxHeartbeats 8000000 in
theorem mmean_13 (ad : Addr) (c : Nat) (z : Nat → Int) (b : Int) (b0 : 0 ≤ b) (b1 : b ≤ 65535) (hc : 2 ≤ c) (w : World) (R : IRow w .u8 (some ad) 2 z) : Calls Tryd.prog 40 #[.int .u8 13, .slice (some ad) 2 c, .int .u16 b] w fun e w' => e = .returned (.string (mkS (opdU 13 z b))) ∧ Below w.heap.size w w' := by
  have hD := fun W (Q : IRow W .u8 (some ad) 2 z) => mdist_any 13 (some ad) 2 c z hc W Q
  have eD : dstP 13 2 z = #[.int .u8 (0), .bool false] := rfl
  rw [eD] at hD
  clear eD
  obtain ⟨z00, z01⟩ := (R.bd 0 (by decide))
  obtain ⟨z10, z11⟩ := (R.bd 1 (by decide))
  have hT := fun W => mtarget_any b (0) b0 b1 (by omega) (by omega) W
  obtain ⟨t, ht⟩ : ∃ t, tgtP b (0) = t := ⟨_, rfl⟩
  have t0 : 0 ≤ t := by rw [← ht]; unfold tgtP; omega
  have t1 : t ≤ 65535 := by rw [← ht]; unfold tgtP; omega
  rw [ht] at hT
  have eT : True := by trivial
  clear ht
  have e1 : IntKind.u8.wrap t = t % 256 := u8_mod t
  have e2 : IntKind.u8.wrap (t / 256) = t / 256 := by rw [u8_mod]; omega
  obtain ⟨TO, hTO⟩ : ∃ TO, mkS (W2 t) = TO := ⟨_, rfl⟩
  have sTO : TO.size = 5 := by rw [← hTO, mkS_size', W2_len]
  have hNT := fun W => mnumN_2 (t % 256) (t / 256) (by omega) (by omega) (by omega) (by omega) W
  rw [show N2 (t % 256) (t / 256) = W2 t from rfl, hTO] at hNT
  have hS := fun W => mnumN_1 (z 0) z00 z01 W
  obtain ⟨S, eS⟩ : ∃ S, mkS (N1 (z 0)) = S := ⟨_, rfl⟩
  have sS : S.size = 3 := by rw [← eS, mkS_size', N1_len]
  rw [eS] at hS
  have hV := fun W (Q : IRow W .u8 (some ad) 2 z) => mnum_1 (some ⟨ad.block, ad.off + 1, none⟩) (c - 1) (fun i => z (i + 1)) (by omega) W (Q.shift 1)
  obtain ⟨V, eV⟩ : ∃ V, mkS (N1 (z 1)) = V := ⟨_, rfl⟩
  have sV : V.size = 3 := by rw [← eV, mkS_size', N1_len]
  simp only [show (0 + 1 : Nat) = 1 from rfl, show (1 + 1 : Nat) = 2 from rfl, Nat.zero_add] at hV
  rw [eV] at hV
  have ec : ((c : Int) - 1).toNat = c - 1 := by omega
  have hE : ((⟨#[35]⟩ ++ S) ++ ⟨#[44]⟩ ++ V : ByteArray) = mkS (opdU 13 z b) := by
    rw [← eS, ← eV]
    show (mkS [35] ++ mkS (N1 (z 0))) ++ mkS [44] ++ mkS (N1 (z 1)) = _
    try simp only [mkS_cat]
    first | rfl | (unfold opdU; simp) | simp
  have HE := Lib.hid hE
  clear hE eT hTO eS eV
  have HR := Lib.hid R
  clear R
  go_enter Tryd.func40, Tryd.ntmps40
  go_wp2_with fail
  refine (hD _ HR.out).mono ?_
  rintro e w' ⟨rfl, rfl⟩
  go_wp2_with fail
  refine (hT _).mono ?_
  rintro e w' ⟨rfl, rfl⟩
  go_wp2_with (first
    | (go_at_call 34; refine (lo_any _ _).mono ?_; rintro e w' ⟨rfl, rfl⟩)
    | (go_at_call 53; refine (hi_any _ _).mono ?_; rintro e w' ⟨rfl, rfl⟩))
  refine (hNT _).mono ?_
  rintro e w1 ⟨rfl, hb1⟩
  have HB1 := Lib.hid hb1
  have HR1 := Lib.hid (HR.out.keep hb1)
  clear hD hT hNT hb1 HR
  have hc0 : w1.cell? ad = some (.int .u8 (z 0)) := HR1.out.cellv 0 (by decide)
  have k1 : (1 : Int) ≤ c := by omega
  have n1 : ¬ c = 1 := by omega
  have n2 : True := by first | trivial | omega
  have n4 : True := by first | trivial | omega
  have k2 : (2 : Int) ≤ c := by first | trivial | omega
  have k4 : True := by trivial
  go_wp2_with fail
  refine rg_begin (S := fun w' => Below w1.heap.size w1 w' ∧ w'.cell? ad = some (.int .u8 (z 0))) 12 #[false, false, false, false, false, false, false, false, false, false, false, false] (by kernel_rfl) (by kernel_rfl) (by kernel_rfl) ?_ (fun hHeld => ?_)
  · exact ⟨(Below.refl _ w1).drew, hc0⟩
  refine rg_take (i := 0) (d := some 61) (l := #[true, false, false, false, false, false, false, false, false, false, false, false]) (fuel := 11) (v := ?_) rfl (by kernel_rfl) (by kernel_rfl) (by kernel_rfl) (by kernel_rfl) (by kernel_rfl) (fun _ _ _ h => h) (by kernel_rfl) ?_ (by assumption) ?_
  rotate_left 1
  · (intro wS hSw; (try dsimp only at hSw); go_simp; try with_reducible rfl)
  try simp only [Act.put, List.setIfInBounds_toArray, List.set_cons_zero, List.set_cons_succ]
  refine rg_take (i := 1) (d := some 62) (l := #[true, true, false, false, false, false, false, false, false, false, false, false]) (fuel := 10) (v := ?_) rfl (by kernel_rfl) (by kernel_rfl) (by kernel_rfl) (by kernel_rfl) (by kernel_rfl) (fun _ _ _ h => h) (by kernel_rfl) ?_ (by assumption) ?_
  rotate_left 1
  · (intro wS hSw; (try dsimp only at hSw); go_simp; try with_reducible rfl)
  try simp only [Act.put, List.setIfInBounds_toArray, List.set_cons_zero, List.set_cons_succ]
  refine rg_take (i := 2) (d := some 63) (l := #[true, true, true, false, false, false, false, false, false, false, false, false]) (fuel := 9) (v := ?_) rfl (by kernel_rfl) (by kernel_rfl) (by kernel_rfl) (by kernel_rfl) (by kernel_rfl) (fun _ _ _ h => h) (by kernel_rfl) ?_ (by assumption) ?_
  rotate_left 1
  · (intro wS hSw; (try dsimp only at hSw); go_simp; try with_reducible rfl)
  try simp only [Act.put, List.setIfInBounds_toArray, List.set_cons_zero, List.set_cons_succ]
  refine rg_take (i := 6) (d := some 67) (l := #[true, true, true, false, false, false, true, false, false, false, false, false]) (fuel := 8) (v := ?_) rfl (by kernel_rfl) (by kernel_rfl) (by kernel_rfl) (by kernel_rfl) (by kernel_rfl) (fun _ _ _ h => h) (by kernel_rfl) ?_ (by assumption) ?_
  rotate_left 1
  · (intro wS hSw; (try dsimp only at hSw); go_simp; try with_reducible rfl)
  try simp only [Act.put, List.setIfInBounds_toArray, List.set_cons_zero, List.set_cons_succ]
  refine rg_take (i := 7) (d := some 68) (l := #[true, true, true, false, false, false, true, true, false, false, false, false]) (fuel := 7) (v := ?_) rfl (by kernel_rfl) (by kernel_rfl) (by kernel_rfl) (by kernel_rfl) (by kernel_rfl) (fun _ _ _ h => h) (by kernel_rfl) ?_ (by assumption) ?_
  rotate_left 1
  · (intro wS hSw; (try dsimp only at hSw); go_simp; try with_reducible rfl)
  try simp only [Act.put, List.setIfInBounds_toArray, List.set_cons_zero, List.set_cons_succ]
  have HBL := Lib.hid hHeld.1
  have HC := Lib.hid (cell_lt hHeld.2)
  have HCC := Lib.hid hHeld.2
  refine rg_next (i := 3) (l := #[true, true, true, true, false, false, true, true, false, false, false, false]) (fuel := 6) (by kernel_rfl) rfl (by kernel_rfl) (by kernel_rfl) (fun K hK => ?_)
  go_simp
  skip
  first | (refine hK.out _ _ ?_ (fun hHeld => ?_)) | (go_wp2_with fail; refine hK.out _ _ ?_ (fun hHeld => ?_))
  · (try dsimp only); exact ⟨hHeld.1.alloc hHeld.1.size _, ((Below.refl _ _).alloc (Nat.le_refl _) _).cell (by exact cell_lt hHeld.2) |>.trans hHeld.2⟩
  clear hK K
  try simp only [Act.put, List.setIfInBounds_toArray, List.set_cons_zero, List.set_cons_succ]
  refine rg_next (i := 4) (l := #[true, true, true, true, true, false, true, true, false, false, false, false]) (fuel := 5) (by kernel_rfl) rfl (by kernel_rfl) (by kernel_rfl) (fun K hK => ?_)
  go_simp
  (go_at_call 39)
  refine (hS w1.drew).mono ?_
  rintro e w2 ⟨rfl, b2⟩
  first | (refine hK.out _ _ ?_ (fun hHeld => ?_)) | (go_wp2_with fail; refine hK.out _ _ ?_ (fun hHeld => ?_))
  · (try dsimp only); exact ⟨HBL.out.trans (b2.mono HBL.out.size), (b2.cell (by exact HC.out)).trans HCC.out⟩
  clear hK K
  try simp only [Act.put, List.setIfInBounds_toArray, List.set_cons_zero, List.set_cons_succ]
  refine rg_take (i := 5) (d := some 66) (l := #[true, true, true, true, true, true, true, true, false, false, false, false]) (fuel := 4) (v := ?_) rfl (by kernel_rfl) (by kernel_rfl) (by kernel_rfl) (by kernel_rfl) (by kernel_rfl) (fun _ _ _ h => h) (by kernel_rfl) ?_ (by assumption) ?_
  rotate_left 1
  · (intro wS hSw; (try dsimp only at hSw); go_simp; try with_reducible rfl)
  try simp only [Act.put, List.setIfInBounds_toArray, List.set_cons_zero, List.set_cons_succ]
  refine rg_next (i := 8) (l := #[true, true, true, true, true, true, true, true, true, false, false, false]) (fuel := 3) (by kernel_rfl) rfl (by kernel_rfl) (by kernel_rfl) (fun K hK => ?_)
  go_simp
  (go_at_call 39)
  refine (hV _ (HR1.out.keep hHeld.1)).mono ?_
  rintro e w2 ⟨rfl, b2⟩
  first | (refine hK.out _ _ ?_ (fun hHeld => ?_)) | (go_wp2_with fail; refine hK.out _ _ ?_ (fun hHeld => ?_))
  · (try dsimp only); exact ⟨hHeld.1.trans (b2.mono hHeld.1.size), (b2.cell (by exact cell_lt hHeld.2)).trans hHeld.2⟩
  clear hK K
  try simp only [Act.put, List.setIfInBounds_toArray, List.set_cons_zero, List.set_cons_succ]
  have HBL := Lib.hid hHeld.1
  have HC := Lib.hid (cell_lt hHeld.2)
  have HCC := Lib.hid hHeld.2
  refine rg_next (i := 9) (l := #[true, true, true, true, true, true, true, true, true, true, false, false]) (fuel := 2) (by kernel_rfl) rfl (by kernel_rfl) (by kernel_rfl) (fun K hK => ?_)
  go_simp
  skip
  first | (refine hK.out _ _ ?_ (fun hHeld => ?_)) | (go_wp2_with fail; refine hK.out _ _ ?_ (fun hHeld => ?_))
  · (try dsimp only); exact ⟨hHeld.1.alloc hHeld.1.size _, ((Below.refl _ _).alloc (Nat.le_refl _) _).cell (by exact cell_lt hHeld.2) |>.trans hHeld.2⟩
  clear hK K
  try simp only [Act.put, List.setIfInBounds_toArray, List.set_cons_zero, List.set_cons_succ]
  refine rg_next (i := 10) (l := #[true, true, true, true, true, true, true, true, true, true, true, false]) (fuel := 1) (by kernel_rfl) rfl (by kernel_rfl) (by kernel_rfl) (fun K hK => ?_)
  go_simp
  (go_at_call 54)
  refine (mjoinN_2 (⟨#[35]⟩ ++ S) V (by rw [ByteArray.size_append]; have q35 : (⟨#[35]⟩ : ByteArray).size = 1 := rfl; omega) (by omega) _).mono ?_
  rintro e w5 ⟨rfl, b2⟩
  first | (refine hK.out _ _ ?_ (fun hHeld => ?_)) | (go_wp2_with fail; refine hK.out _ _ ?_ (fun hHeld => ?_))
  · (try dsimp only); exact ⟨HBL.out.trans (b2.mono HBL.out.size), (b2.cell (by exact HC.out)).trans HCC.out⟩
  clear hK K
  try simp only [Act.put, List.setIfInBounds_toArray, List.set_cons_zero, List.set_cons_succ]
  refine rg_take (i := 11) (d := some 6) (l := #[true, true, true, true, true, true, true, true, true, true, true, true]) (fuel := 0) (v := ?_) rfl (by kernel_rfl) (by kernel_rfl) (by kernel_rfl) (by kernel_rfl) (by kernel_rfl) (fun _ _ _ h => h) (by kernel_rfl) ?_ (by assumption) ?_
  rotate_left 1
  · (intro wS hSw; (try dsimp only at hSw); go_simp; try with_reducible rfl)
  try simp only [Act.put, List.setIfInBounds_toArray, List.set_cons_zero, List.set_cons_succ]
  refine wpAnyH_done (by kernel_rfl) ?_ _
  go_wp2_with fail
  go_ret
  exact ⟨congrArg (fun s => Ending.returned (Value.string s)) HE.out, HB1.out.trans (hHeld.1.mono HB1.out.size)⟩
set_option maxHeartbeats 8000000 in
theorem mmean_14 (ad : Addr) (c : Nat) (z : Nat → Int) (b : Int) (b0 : 0 ≤ b) (b1 : b ≤ 65535) (hc : 2 ≤ c) (w : World) (R : IRow w .u8 (some ad) 2 z) : Calls Tryd.prog 40 #[.int .u8 14, .slice (some ad) 2 c, .int .u16 b] w fun e w' => e = .returned (.string (mkS (opdU 14 z b))) ∧ Below w.heap.size w w' := by
  have hD := fun W (Q : IRow W .u8 (some ad) 2 z) => mdist_any 14 (some ad) 2 c z hc W Q
  have eD : dstP 14 2 z = #[.int .u8 (0), .bool false] := rfl
  rw [eD] at hD
  clear eD
  obtain ⟨z00, z01⟩ := (R.bd 0 (by decide))
  obtain ⟨z10, z11⟩ := (R.bd 1 (by decide))
  have hT := fun W => mtarget_any b (0) b0 b1 (by omega) (by omega) W
  obtain ⟨t, ht⟩ : ∃ t, tgtP b (0) = t := ⟨_, rfl⟩
  have t0 : 0 ≤ t := by rw [← ht]; unfold tgtP; omega
  have t1 : t ≤ 65535 := by rw [← ht]; unfold tgtP; omega
  rw [ht] at hT
  have eT : True := by trivial
  clear ht
  have e1 : IntKind.u8.wrap t = t % 256 := u8_mod t
  have e2 : IntKind.u8.wrap (t / 256) = t / 256 := by rw [u8_mod]; omega
  obtain ⟨TO, hTO⟩ : ∃ TO, mkS (W2 t) = TO := ⟨_, rfl⟩
  have sTO : TO.size = 5 := by rw [← hTO, mkS_size', W2_len]
  have hNT := fun W => mnumN_2 (t % 256) (t / 256) (by omega) (by omega) (by omega) (by omega) W
  rw [show N2 (t % 256) (t / 256) = W2 t from rfl, hTO] at hNT
  have hS := fun W => mnumN_1 (z 0) z00 z01 W
  obtain ⟨S, eS⟩ : ∃ S, mkS (N1 (z 0)) = S := ⟨_, rfl⟩
  have sS : S.size = 3 := by rw [← eS, mkS_size', N1_len]
  rw [eS] at hS
  have hV := fun W (Q : IRow W .u8 (some ad) 2 z) => mnum_1 (some ⟨ad.block, ad.off + 1, none⟩) (c - 1) (fun i => z (i + 1)) (by omega) W (Q.shift 1)
  obtain ⟨V, eV⟩ : ∃ V, mkS (N1 (z 1)) = V := ⟨_, rfl⟩
  have sV : V.size = 3 := by rw [← eV, mkS_size', N1_len]
  simp only [show (0 + 1 : Nat) = 1 from rfl, show (1 + 1 : Nat) = 2 from rfl, Nat.zero_add] at hV
  rw [eV] at hV
  have ec : ((c : Int) - 1).toNat = c - 1 := by omega
  have hE : ((⟨#[35]⟩ ++ S) ++ ⟨#[44]⟩ ++ V ++ ⟨#[44]⟩ ++ ⟨#[88]⟩ : ByteArray) = mkS (opdU 14 z b) := by
    rw [← eS, ← eV]
    show (mkS [35] ++ mkS (N1 (z 0))) ++ mkS [44] ++ mkS (N1 (z 1)) ++ mkS [44] ++ mkS [88] = _
    try simp only [mkS_cat]
    first | rfl | (unfold opdU; simp) | simp
  have HE := Lib.hid hE
  clear hE eT hTO eS eV
  have HR := Lib.hid R
  clear R
  go_enter Tryd.func40, Tryd.ntmps40
  go_wp2_with fail
  refine (hD _ HR.out).mono ?_
  rintro e w' ⟨rfl, rfl⟩
  go_wp2_with fail
  refine (hT _).mono ?_
  rintro e w' ⟨rfl, rfl⟩
  go_wp2_with (first
    | (go_at_call 34; refine (lo_any _ _).mono ?_; rintro e w' ⟨rfl, rfl⟩)
    | (go_at_call 53; refine (hi_any _ _).mono ?_; rintro e w' ⟨rfl, rfl⟩))
  refine (hNT _).mono ?_
  rintro e w1 ⟨rfl, hb1⟩
  have HB1 := Lib.hid hb1
  have HR1 := Lib.hid (HR.out.keep hb1)
  clear hD hT hNT hb1 HR
  have hc0 : w1.cell? ad = some (.int .u8 (z 0)) := HR1.out.cellv 0 (by decide)
  have k1 : (1 : Int) ≤ c := by omega
  have n1 : ¬ c = 1 := by omega
  have n2 : True := by first | trivial | omega
  have n4 : True := by first | trivial | omega
  have k2 : (2 : Int) ≤ c := by first | trivial | omega
  have k4 : True := by trivial
  go_wp2_with fail
  refine rg_begin (S := fun w' => Below w1.heap.size w1 w' ∧ w'.cell? ad = some (.int .u8 (z 0))) 12 #[false, false, false, false, false, false, false, false, false, false, false, false] (by kernel_rfl) (by kernel_rfl) (by kernel_rfl) ?_ (fun hHeld => ?_)
  · exact ⟨(Below.refl _ w1).drew, hc0⟩
  refine rg_take (i := 0) (d := some 75) (l := #[true, false, false, false, false, false, false, false, false, false, false, false]) (fuel := 11) (v := ?_) rfl (by kernel_rfl) (by kernel_rfl) (by kernel_rfl) (by kernel_rfl) (by kernel_rfl) (fun _ _ _ h => h) (by kernel_rfl) ?_ (by assumption) ?_
  rotate_left 1
  · (intro wS hSw; (try dsimp only at hSw); go_simp; try with_reducible rfl)
  try simp only [Act.put, List.setIfInBounds_toArray, List.set_cons_zero, List.set_cons_succ]
  refine rg_take (i := 1) (d := some 76) (l := #[true, true, false, false, false, false, false, false, false, false, false, false]) (fuel := 10) (v := ?_) rfl (by kernel_rfl) (by kernel_rfl) (by kernel_rfl) (by kernel_rfl) (by kernel_rfl) (fun _ _ _ h => h) (by kernel_rfl) ?_ (by assumption) ?_
  rotate_left 1
  · (intro wS hSw; (try dsimp only at hSw); go_simp; try with_reducible rfl)
  try simp only [Act.put, List.setIfInBounds_toArray, List.set_cons_zero, List.set_cons_succ]
  refine rg_take (i := 2) (d := some 77) (l := #[true, true, true, false, false, false, false, false, false, false, false, false]) (fuel := 9) (v := ?_) rfl (by kernel_rfl) (by kernel_rfl) (by kernel_rfl) (by kernel_rfl) (by kernel_rfl) (fun _ _ _ h => h) (by kernel_rfl) ?_ (by assumption) ?_
  rotate_left 1
  · (intro wS hSw; (try dsimp only at hSw); go_simp; try with_reducible rfl)
  try simp only [Act.put, List.setIfInBounds_toArray, List.set_cons_zero, List.set_cons_succ]
  refine rg_take (i := 6) (d := some 81) (l := #[true, true, true, false, false, false, true, false, false, false, false, false]) (fuel := 8) (v := ?_) rfl (by kernel_rfl) (by kernel_rfl) (by kernel_rfl) (by kernel_rfl) (by kernel_rfl) (fun _ _ _ h => h) (by kernel_rfl) ?_ (by assumption) ?_
  rotate_left 1
  · (intro wS hSw; (try dsimp only at hSw); go_simp; try with_reducible rfl)
  try simp only [Act.put, List.setIfInBounds_toArray, List.set_cons_zero, List.set_cons_succ]
  refine rg_take (i := 7) (d := some 82) (l := #[true, true, true, false, false, false, true, true, false, false, false, false]) (fuel := 7) (v := ?_) rfl (by kernel_rfl) (by kernel_rfl) (by kernel_rfl) (by kernel_rfl) (by kernel_rfl) (fun _ _ _ h => h) (by kernel_rfl) ?_ (by assumption) ?_
  rotate_left 1
  · (intro wS hSw; (try dsimp only at hSw); go_simp; try with_reducible rfl)
  try simp only [Act.put, List.setIfInBounds_toArray, List.set_cons_zero, List.set_cons_succ]
  have HBL := Lib.hid hHeld.1
  have HC := Lib.hid (cell_lt hHeld.2)
  have HCC := Lib.hid hHeld.2
  refine rg_next (i := 3) (l := #[true, true, true, true, false, false, true, true, false, false, false, false]) (fuel := 6) (by kernel_rfl) rfl (by kernel_rfl) (by kernel_rfl) (fun K hK => ?_)
  go_simp
  skip
  first | (refine hK.out _ _ ?_ (fun hHeld => ?_)) | (go_wp2_with fail; refine hK.out _ _ ?_ (fun hHeld => ?_))
  · (try dsimp only); exact ⟨hHeld.1.alloc hHeld.1.size _, ((Below.refl _ _).alloc (Nat.le_refl _) _).cell (by exact cell_lt hHeld.2) |>.trans hHeld.2⟩
  clear hK K
  try simp only [Act.put, List.setIfInBounds_toArray, List.set_cons_zero, List.set_cons_succ]
  refine rg_next (i := 4) (l := #[true, true, true, true, true, false, true, true, false, false, false, false]) (fuel := 5) (by kernel_rfl) rfl (by kernel_rfl) (by kernel_rfl) (fun K hK => ?_)
  go_simp
  (go_at_call 39)
  refine (hS w1.drew).mono ?_
  rintro e w2 ⟨rfl, b2⟩
  first | (refine hK.out _ _ ?_ (fun hHeld => ?_)) | (go_wp2_with fail; refine hK.out _ _ ?_ (fun hHeld => ?_))
  · (try dsimp only); exact ⟨HBL.out.trans (b2.mono HBL.out.size), (b2.cell (by exact HC.out)).trans HCC.out⟩
  clear hK K
  try simp only [Act.put, List.setIfInBounds_toArray, List.set_cons_zero, List.set_cons_succ]
  refine rg_take (i := 5) (d := some 80) (l := #[true, true, true, true, true, true, true, true, false, false, false, false]) (fuel := 4) (v := ?_) rfl (by kernel_rfl) (by kernel_rfl) (by kernel_rfl) (by kernel_rfl) (by kernel_rfl) (fun _ _ _ h => h) (by kernel_rfl) ?_ (by assumption) ?_
  rotate_left 1
  · (intro wS hSw; (try dsimp only at hSw); go_simp; try with_reducible rfl)
  try simp only [Act.put, List.setIfInBounds_toArray, List.set_cons_zero, List.set_cons_succ]
  refine rg_next (i := 8) (l := #[true, true, true, true, true, true, true, true, true, false, false, false]) (fuel := 3) (by kernel_rfl) rfl (by kernel_rfl) (by kernel_rfl) (fun K hK => ?_)
  go_simp
  (go_at_call 39)
  refine (hV _ (HR1.out.keep hHeld.1)).mono ?_
  rintro e w2 ⟨rfl, b2⟩
  first | (refine hK.out _ _ ?_ (fun hHeld => ?_)) | (go_wp2_with fail; refine hK.out _ _ ?_ (fun hHeld => ?_))
  · (try dsimp only); exact ⟨hHeld.1.trans (b2.mono hHeld.1.size), (b2.cell (by exact cell_lt hHeld.2)).trans hHeld.2⟩
  clear hK K
  try simp only [Act.put, List.setIfInBounds_toArray, List.set_cons_zero, List.set_cons_succ]
  have HBL := Lib.hid hHeld.1
  have HC := Lib.hid (cell_lt hHeld.2)
  have HCC := Lib.hid hHeld.2
  refine rg_next (i := 9) (l := #[true, true, true, true, true, true, true, true, true, true, false, false]) (fuel := 2) (by kernel_rfl) rfl (by kernel_rfl) (by kernel_rfl) (fun K hK => ?_)
  go_simp
  skip
  first | (refine hK.out _ _ ?_ (fun hHeld => ?_)) | (go_wp2_with fail; refine hK.out _ _ ?_ (fun hHeld => ?_))
  · (try dsimp only); exact ⟨hHeld.1.alloc hHeld.1.size _, ((Below.refl _ _).alloc (Nat.le_refl _) _).cell (by exact cell_lt hHeld.2) |>.trans hHeld.2⟩
  clear hK K
  try simp only [Act.put, List.setIfInBounds_toArray, List.set_cons_zero, List.set_cons_succ]
  refine rg_next (i := 10) (l := #[true, true, true, true, true, true, true, true, true, true, true, false]) (fuel := 1) (by kernel_rfl) rfl (by kernel_rfl) (by kernel_rfl) (fun K hK => ?_)
  go_simp
  (go_at_call 54)
  refine (mjoinN_3 (⟨#[35]⟩ ++ S) V ⟨#[88]⟩ (by rw [ByteArray.size_append]; have q35 : (⟨#[35]⟩ : ByteArray).size = 1 := rfl; omega) (by omega) (by decide) _).mono ?_
  rintro e w5 ⟨rfl, b2⟩
  first | (refine hK.out _ _ ?_ (fun hHeld => ?_)) | (go_wp2_with fail; refine hK.out _ _ ?_ (fun hHeld => ?_))
  · (try dsimp only); exact ⟨HBL.out.trans (b2.mono HBL.out.size), (b2.cell (by exact HC.out)).trans HCC.out⟩
  clear hK K
  try simp only [Act.put, List.setIfInBounds_toArray, List.set_cons_zero, List.set_cons_succ]
  refine rg_take (i := 11) (d := some 6) (l := #[true, true, true, true, true, true, true, true, true, true, true, true]) (fuel := 0) (v := ?_) rfl (by kernel_rfl) (by kernel_rfl) (by kernel_rfl) (by kernel_rfl) (by kernel_rfl) (fun _ _ _ h => h) (by kernel_rfl) ?_ (by assumption) ?_
  rotate_left 1
  · (intro wS hSw; (try dsimp only at hSw); go_simp; try with_reducible rfl)
  try simp only [Act.put, List.setIfInBounds_toArray, List.set_cons_zero, List.set_cons_succ]
  refine wpAnyH_done (by kernel_rfl) ?_ _
  go_wp2_with fail
  go_ret
  exact ⟨congrArg (fun s => Ending.returned (Value.string s)) HE.out, HB1.out.trans (hHeld.1.mono HB1.out.size)⟩
set_option maxHeartbeats 8000000 in
theorem mmean_15 (ad : Addr) (c : Nat) (z : Nat → Int) (b : Int) (b0 : 0 ≤ b) (b1 : b ≤ 65535) (hc : 3 ≤ c) (w : World) (R : IRow w .u8 (some ad) 3 z) : Calls Tryd.prog 40 #[.int .u8 15, .slice (some ad) 3 c, .int .u16 b] w fun e w' => e = .returned (.string (mkS (opdU 15 z b))) ∧ Below w.heap.size w w' := by
  have hD := fun W (Q : IRow W .u8 (some ad) 3 z) => mdist_any 15 (some ad) 3 c z hc W Q
  have eD : dstP 15 3 z = #[.int .u8 (0), .bool false] := rfl
  rw [eD] at hD
  clear eD
  obtain ⟨z00, z01⟩ := (R.bd 0 (by decide))
  obtain ⟨z10, z11⟩ := (R.bd 1 (by decide))
  obtain ⟨z20, z21⟩ := (R.bd 2 (by decide))
  have hT := fun W => mtarget_any b (0) b0 b1 (by omega) (by omega) W
  obtain ⟨t, ht⟩ : ∃ t, tgtP b (0) = t := ⟨_, rfl⟩
  have t0 : 0 ≤ t := by rw [← ht]; unfold tgtP; omega
  have t1 : t ≤ 65535 := by rw [← ht]; unfold tgtP; omega
  rw [ht] at hT
  have eT : True := by trivial
  clear ht
  have e1 : IntKind.u8.wrap t = t % 256 := u8_mod t
  have e2 : IntKind.u8.wrap (t / 256) = t / 256 := by rw [u8_mod]; omega
  obtain ⟨TO, hTO⟩ : ∃ TO, mkS (W2 t) = TO := ⟨_, rfl⟩
  have sTO : TO.size = 5 := by rw [← hTO, mkS_size', W2_len]
  have hNT := fun W => mnumN_2 (t % 256) (t / 256) (by omega) (by omega) (by omega) (by omega) W
  rw [show N2 (t % 256) (t / 256) = W2 t from rfl, hTO] at hNT
  have hS := fun W => mnumN_1 (z 0) z00 z01 W
  obtain ⟨S, eS⟩ : ∃ S, mkS (N1 (z 0)) = S := ⟨_, rfl⟩
  have sS : S.size = 3 := by rw [← eS, mkS_size', N1_len]
  rw [eS] at hS
  have hV := fun W (Q : IRow W .u8 (some ad) 3 z) => mnum_2 (some ⟨ad.block, ad.off + 1, none⟩) (c - 1) (fun i => z (i + 1)) (by omega) W (Q.shift 1)
  obtain ⟨V, eV⟩ : ∃ V, mkS (N2 (z 1) (z 2)) = V := ⟨_, rfl⟩
  have sV : V.size = 5 := by rw [← eV, mkS_size', N2_len]
  simp only [show (0 + 1 : Nat) = 1 from rfl, show (1 + 1 : Nat) = 2 from rfl, Nat.zero_add] at hV
  rw [eV] at hV
  have ec : ((c : Int) - 1).toNat = c - 1 := by omega
  have hE : ((⟨#[35]⟩ ++ S) ++ ⟨#[44]⟩ ++ V : ByteArray) = mkS (opdU 15 z b) := by
    rw [← eS, ← eV]
    show (mkS [35] ++ mkS (N1 (z 0))) ++ mkS [44] ++ mkS (N2 (z 1) (z 2)) = _
    try simp only [mkS_cat]
    first | rfl | (unfold opdU; simp) | simp
  have HE := Lib.hid hE
  clear hE eT hTO eS eV
  have HR := Lib.hid R
  clear R
  go_enter Tryd.func40, Tryd.ntmps40
  go_wp2_with fail
  refine (hD _ HR.out).mono ?_
  rintro e w' ⟨rfl, rfl⟩
  go_wp2_with fail
  refine (hT _).mono ?_
  rintro e w' ⟨rfl, rfl⟩
  go_wp2_with (first
    | (go_at_call 34; refine (lo_any _ _).mono ?_; rintro e w' ⟨rfl, rfl⟩)
    | (go_at_call 53; refine (hi_any _ _).mono ?_; rintro e w' ⟨rfl, rfl⟩))
  refine (hNT _).mono ?_
  rintro e w1 ⟨rfl, hb1⟩
  have HB1 := Lib.hid hb1
  have HR1 := Lib.hid (HR.out.keep hb1)
  clear hD hT hNT hb1 HR
  have hc0 : w1.cell? ad = some (.int .u8 (z 0)) := HR1.out.cellv 0 (by decide)
  have k1 : (1 : Int) ≤ c := by omega
  have n1 : ¬ c = 1 := by omega
  have n2 : ¬ c = 2 := by first | trivial | omega
  have n4 : True := by first | trivial | omega
  have k2 : (2 : Int) ≤ c := by first | trivial | omega
  have k4 : True := by trivial
  go_wp2_with fail
  refine rg_begin (S := fun w' => Below w1.heap.size w1 w' ∧ w'.cell? ad = some (.int .u8 (z 0))) 12 #[false, false, false, false, false, false, false, false, false, false, false, false] (by kernel_rfl) (by kernel_rfl) (by kernel_rfl) ?_ (fun hHeld => ?_)
  · exact ⟨(Below.refl _ w1).drew, hc0⟩
  refine rg_take (i := 0) (d := some 61) (l := #[true, false, false, false, false, false, false, false, false, false, false, false]) (fuel := 11) (v := ?_) rfl (by kernel_rfl) (by kernel_rfl) (by kernel_rfl) (by kernel_rfl) (by kernel_rfl) (fun _ _ _ h => h) (by kernel_rfl) ?_ (by assumption) ?_
  rotate_left 1
  · (intro wS hSw; (try dsimp only at hSw); go_simp; try with_reducible rfl)
  try simp only [Act.put, List.setIfInBounds_toArray, List.set_cons_zero, List.set_cons_succ]
  refine rg_take (i := 1) (d := some 62) (l := #[true, true, false, false, false, false, false, false, false, false, false, false]) (fuel := 10) (v := ?_) rfl (by kernel_rfl) (by kernel_rfl) (by kernel_rfl) (by kernel_rfl) (by kernel_rfl) (fun _ _ _ h => h) (by kernel_rfl) ?_ (by assumption) ?_
  rotate_left 1
  · (intro wS hSw; (try dsimp only at hSw); go_simp; try with_reducible rfl)
  try simp only [Act.put, List.setIfInBounds_toArray, List.set_cons_zero, List.set_cons_succ]
  refine rg_take (i := 2) (d := some 63) (l := #[true, true, true, false, false, false, false, false, false, false, false, false]) (fuel := 9) (v := ?_) rfl (by kernel_rfl) (by kernel_rfl) (by kernel_rfl) (by kernel_rfl) (by kernel_rfl) (fun _ _ _ h => h) (by kernel_rfl) ?_ (by assumption) ?_
  rotate_left 1
  · (intro wS hSw; (try dsimp only at hSw); go_simp; try with_reducible rfl)
  try simp only [Act.put, List.setIfInBounds_toArray, List.set_cons_zero, List.set_cons_succ]
  refine rg_take (i := 6) (d := some 67) (l := #[true, true, true, false, false, false, true, false, false, false, false, false]) (fuel := 8) (v := ?_) rfl (by kernel_rfl) (by kernel_rfl) (by kernel_rfl) (by kernel_rfl) (by kernel_rfl) (fun _ _ _ h => h) (by kernel_rfl) ?_ (by assumption) ?_
  rotate_left 1
  · (intro wS hSw; (try dsimp only at hSw); go_simp; try with_reducible rfl)
  try simp only [Act.put, List.setIfInBounds_toArray, List.set_cons_zero, List.set_cons_succ]
  refine rg_take (i := 7) (d := some 68) (l := #[true, true, true, false, false, false, true, true, false, false, false, false]) (fuel := 7) (v := ?_) rfl (by kernel_rfl) (by kernel_rfl) (by kernel_rfl) (by kernel_rfl) (by kernel_rfl) (fun _ _ _ h => h) (by kernel_rfl) ?_ (by assumption) ?_
  rotate_left 1
  · (intro wS hSw; (try dsimp only at hSw); go_simp; try with_reducible rfl)
  try simp only [Act.put, List.setIfInBounds_toArray, List.set_cons_zero, List.set_cons_succ]
  have HBL := Lib.hid hHeld.1
  have HC := Lib.hid (cell_lt hHeld.2)
  have HCC := Lib.hid hHeld.2
  refine rg_next (i := 3) (l := #[true, true, true, true, false, false, true, true, false, false, false, false]) (fuel := 6) (by kernel_rfl) rfl (by kernel_rfl) (by kernel_rfl) (fun K hK => ?_)
  go_simp
  skip
  first | (refine hK.out _ _ ?_ (fun hHeld => ?_)) | (go_wp2_with fail; refine hK.out _ _ ?_ (fun hHeld => ?_))
  · (try dsimp only); exact ⟨hHeld.1.alloc hHeld.1.size _, ((Below.refl _ _).alloc (Nat.le_refl _) _).cell (by exact cell_lt hHeld.2) |>.trans hHeld.2⟩
  clear hK K
  try simp only [Act.put, List.setIfInBounds_toArray, List.set_cons_zero, List.set_cons_succ]
  refine rg_next (i := 4) (l := #[true, true, true, true, true, false, true, true, false, false, false, false]) (fuel := 5) (by kernel_rfl) rfl (by kernel_rfl) (by kernel_rfl) (fun K hK => ?_)
  go_simp
  (go_at_call 39)
  refine (hS w1.drew).mono ?_
  rintro e w2 ⟨rfl, b2⟩
  first | (refine hK.out _ _ ?_ (fun hHeld => ?_)) | (go_wp2_with fail; refine hK.out _ _ ?_ (fun hHeld => ?_))
  · (try dsimp only); exact ⟨HBL.out.trans (b2.mono HBL.out.size), (b2.cell (by exact HC.out)).trans HCC.out⟩
  clear hK K
  try simp only [Act.put, List.setIfInBounds_toArray, List.set_cons_zero, List.set_cons_succ]
  refine rg_take (i := 5) (d := some 66) (l := #[true, true, true, true, true, true, true, true, false, false, false, false]) (fuel := 4) (v := ?_) rfl (by kernel_rfl) (by kernel_rfl) (by kernel_rfl) (by kernel_rfl) (by kernel_rfl) (fun _ _ _ h => h) (by kernel_rfl) ?_ (by assumption) ?_
  rotate_left 1
  · (intro wS hSw; (try dsimp only at hSw); go_simp; try with_reducible rfl)
  try simp only [Act.put, List.setIfInBounds_toArray, List.set_cons_zero, List.set_cons_succ]
  refine rg_next (i := 8) (l := #[true, true, true, true, true, true, true, true, true, false, false, false]) (fuel := 3) (by kernel_rfl) rfl (by kernel_rfl) (by kernel_rfl) (fun K hK => ?_)
  go_simp
  (go_at_call 39)
  refine (hV _ (HR1.out.keep hHeld.1)).mono ?_
  rintro e w2 ⟨rfl, b2⟩
  first | (refine hK.out _ _ ?_ (fun hHeld => ?_)) | (go_wp2_with fail; refine hK.out _ _ ?_ (fun hHeld => ?_))
  · (try dsimp only); exact ⟨hHeld.1.trans (b2.mono hHeld.1.size), (b2.cell (by exact cell_lt hHeld.2)).trans hHeld.2⟩
  clear hK K
  try simp only [Act.put, List.setIfInBounds_toArray, List.set_cons_zero, List.set_cons_succ]
  have HBL := Lib.hid hHeld.1
  have HC := Lib.hid (cell_lt hHeld.2)
  have HCC := Lib.hid hHeld.2
  refine rg_next (i := 9) (l := #[true, true, true, true, true, true, true, true, true, true, false, false]) (fuel := 2) (by kernel_rfl) rfl (by kernel_rfl) (by kernel_rfl) (fun K hK => ?_)
  go_simp
  skip
  first | (refine hK.out _ _ ?_ (fun hHeld => ?_)) | (go_wp2_with fail; refine hK.out _ _ ?_ (fun hHeld => ?_))
  · (try dsimp only); exact ⟨hHeld.1.alloc hHeld.1.size _, ((Below.refl _ _).alloc (Nat.le_refl _) _).cell (by exact cell_lt hHeld.2) |>.trans hHeld.2⟩
  clear hK K
  try simp only [Act.put, List.setIfInBounds_toArray, List.set_cons_zero, List.set_cons_succ]
  refine rg_next (i := 10) (l := #[true, true, true, true, true, true, true, true, true, true, true, false]) (fuel := 1) (by kernel_rfl) rfl (by kernel_rfl) (by kernel_rfl) (fun K hK => ?_)
  go_simp
  (go_at_call 54)
  refine (mjoinN_2 (⟨#[35]⟩ ++ S) V (by rw [ByteArray.size_append]; have q35 : (⟨#[35]⟩ : ByteArray).size = 1 := rfl; omega) (by omega) _).mono ?_
  rintro e w5 ⟨rfl, b2⟩
  first | (refine hK.out _ _ ?_ (fun hHeld => ?_)) | (go_wp2_with fail; refine hK.out _ _ ?_ (fun hHeld => ?_))
  · (try dsimp only); exact ⟨HBL.out.trans (b2.mono HBL.out.size), (b2.cell (by exact HC.out)).trans HCC.out⟩
  clear hK K
  try simp only [Act.put, List.setIfInBounds_toArray, List.set_cons_zero, List.set_cons_succ]
  refine rg_take (i := 11) (d := some 6) (l := #[true, true, true, true, true, true, true, true, true, true, true, true]) (fuel := 0) (v := ?_) rfl (by kernel_rfl) (by kernel_rfl) (by kernel_rfl) (by kernel_rfl) (by kernel_rfl) (fun _ _ _ h => h) (by kernel_rfl) ?_ (by assumption) ?_
  rotate_left 1
  · (intro wS hSw; (try dsimp only at hSw); go_simp; try with_reducible rfl)
  try simp only [Act.put, List.setIfInBounds_toArray, List.set_cons_zero, List.set_cons_succ]
  refine wpAnyH_done (by kernel_rfl) ?_ _
  go_wp2_with fail
  go_ret
  exact ⟨congrArg (fun s => Ending.returned (Value.string s)) HE.out, HB1.out.trans (hHeld.1.mono HB1.out.size)⟩
set_option maxHeartbeats 8000000 in
theorem mmean_16 (ad : Addr) (c : Nat) (z : Nat → Int) (b : Int) (b0 : 0 ≤ b) (b1 : b ≤ 65535) (hc : 3 ≤ c) (w : World) (R : IRow w .u8 (some ad) 3 z) : Calls Tryd.prog 40 #[.int .u8 16, .slice (some ad) 3 c, .int .u16 b] w fun e w' => e = .returned (.string (mkS (opdU 16 z b))) ∧ Below w.heap.size w w' := by
  have hD := fun W (Q : IRow W .u8 (some ad) 3 z) => mdist_any 16 (some ad) 3 c z hc W Q
  have eD : dstP 16 3 z = #[.int .u8 (0), .bool false] := rfl
  rw [eD] at hD
  clear eD
  obtain ⟨z00, z01⟩ := (R.bd 0 (by decide))
  obtain ⟨z10, z11⟩ := (R.bd 1 (by decide))
  obtain ⟨z20, z21⟩ := (R.bd 2 (by decide))
  have hT := fun W => mtarget_any b (0) b0 b1 (by omega) (by omega) W
  obtain ⟨t, ht⟩ : ∃ t, tgtP b (0) = t := ⟨_, rfl⟩
  have t0 : 0 ≤ t := by rw [← ht]; unfold tgtP; omega
  have t1 : t ≤ 65535 := by rw [← ht]; unfold tgtP; omega
  rw [ht] at hT
  have eT : True := by trivial
  clear ht
  have e1 : IntKind.u8.wrap t = t % 256 := u8_mod t
  have e2 : IntKind.u8.wrap (t / 256) = t / 256 := by rw [u8_mod]; omega
  obtain ⟨TO, hTO⟩ : ∃ TO, mkS (W2 t) = TO := ⟨_, rfl⟩
  have sTO : TO.size = 5 := by rw [← hTO, mkS_size', W2_len]
  have hNT := fun W => mnumN_2 (t % 256) (t / 256) (by omega) (by omega) (by omega) (by omega) W
  rw [show N2 (t % 256) (t / 256) = W2 t from rfl, hTO] at hNT
  have hS := fun W => mnumN_1 (z 0) z00 z01 W
  obtain ⟨S, eS⟩ : ∃ S, mkS (N1 (z 0)) = S := ⟨_, rfl⟩
  have sS : S.size = 3 := by rw [← eS, mkS_size', N1_len]
  rw [eS] at hS
  have hV := fun W (Q : IRow W .u8 (some ad) 3 z) => mnum_2 (some ⟨ad.block, ad.off + 1, none⟩) (c - 1) (fun i => z (i + 1)) (by omega) W (Q.shift 1)
  obtain ⟨V, eV⟩ : ∃ V, mkS (N2 (z 1) (z 2)) = V := ⟨_, rfl⟩
  have sV : V.size = 5 := by rw [← eV, mkS_size', N2_len]
  simp only [show (0 + 1 : Nat) = 1 from rfl, show (1 + 1 : Nat) = 2 from rfl, Nat.zero_add] at hV
  rw [eV] at hV
  have ec : ((c : Int) - 1).toNat = c - 1 := by omega
  have hE : ((⟨#[35]⟩ ++ S) ++ ⟨#[44]⟩ ++ V ++ ⟨#[44]⟩ ++ ⟨#[88]⟩ : ByteArray) = mkS (opdU 16 z b) := by
    rw [← eS, ← eV]
    show (mkS [35] ++ mkS (N1 (z 0))) ++ mkS [44] ++ mkS (N2 (z 1) (z 2)) ++ mkS [44] ++ mkS [88] = _
    try simp only [mkS_cat]
    first | rfl | (unfold opdU; simp) | simp
  have HE := Lib.hid hE
  clear hE eT hTO eS eV
  have HR := Lib.hid R
  clear R
  go_enter Tryd.func40, Tryd.ntmps40
  go_wp2_with fail
  refine (hD _ HR.out).mono ?_
  rintro e w' ⟨rfl, rfl⟩
  go_wp2_with fail
  refine (hT _).mono ?_
  rintro e w' ⟨rfl, rfl⟩
  go_wp2_with (first
    | (go_at_call 34; refine (lo_any _ _).mono ?_; rintro e w' ⟨rfl, rfl⟩)
    | (go_at_call 53; refine (hi_any _ _).mono ?_; rintro e w' ⟨rfl, rfl⟩))
  refine (hNT _).mono ?_
  rintro e w1 ⟨rfl, hb1⟩
  have HB1 := Lib.hid hb1
  have HR1 := Lib.hid (HR.out.keep hb1)
  clear hD hT hNT hb1 HR
  have hc0 : w1.cell? ad = some (.int .u8 (z 0)) := HR1.out.cellv 0 (by decide)
  have k1 : (1 : Int) ≤ c := by omega
  have n1 : ¬ c = 1 := by omega
  have n2 : ¬ c = 2 := by first | trivial | omega
  have n4 : True := by first | trivial | omega
  have k2 : (2 : Int) ≤ c := by first | trivial | omega
  have k4 : True := by trivial
  go_wp2_with fail
  refine rg_begin (S := fun w' => Below w1.heap.size w1 w' ∧ w'.cell? ad = some (.int .u8 (z 0))) 12 #[false, false, false, false, false, false, false, false, false, false, false, false] (by kernel_rfl) (by kernel_rfl) (by kernel_rfl) ?_ (fun hHeld => ?_)
  · exact ⟨(Below.refl _ w1).drew, hc0⟩
  refine rg_take (i := 0) (d := some 75) (l := #[true, false, false, false, false, false, false, false, false, false, false, false]) (fuel := 11) (v := ?_) rfl (by kernel_rfl) (by kernel_rfl) (by kernel_rfl) (by kernel_rfl) (by kernel_rfl) (fun _ _ _ h => h) (by kernel_rfl) ?_ (by assumption) ?_
  rotate_left 1
  · (intro wS hSw; (try dsimp only at hSw); go_simp; try with_reducible rfl)
  try simp only [Act.put, List.setIfInBounds_toArray, List.set_cons_zero, List.set_cons_succ]
  refine rg_take (i := 1) (d := some 76) (l := #[true, true, false, false, false, false, false, false, false, false, false, false]) (fuel := 10) (v := ?_) rfl (by kernel_rfl) (by kernel_rfl) (by kernel_rfl) (by kernel_rfl) (by kernel_rfl) (fun _ _ _ h => h) (by kernel_rfl) ?_ (by assumption) ?_
  rotate_left 1
  · (intro wS hSw; (try dsimp only at hSw); go_simp; try with_reducible rfl)
  try simp only [Act.put, List.setIfInBounds_toArray, List.set_cons_zero, List.set_cons_succ]
  refine rg_take (i := 2) (d := some 77) (l := #[true, true, true, false, false, false, false, false, false, false, false, false]) (fuel := 9) (v := ?_) rfl (by kernel_rfl) (by kernel_rfl) (by kernel_rfl) (by kernel_rfl) (by kernel_rfl) (fun _ _ _ h => h) (by kernel_rfl) ?_ (by assumption) ?_
  rotate_left 1
  · (intro wS hSw; (try dsimp only at hSw); go_simp; try with_reducible rfl)
  try simp only [Act.put, List.setIfInBounds_toArray, List.set_cons_zero, List.set_cons_succ]
  refine rg_take (i := 6) (d := some 81) (l := #[true, true, true, false, false, false, true, false, false, false, false, false]) (fuel := 8) (v := ?_) rfl (by kernel_rfl) (by kernel_rfl) (by kernel_rfl) (by kernel_rfl) (by kernel_rfl) (fun _ _ _ h => h) (by kernel_rfl) ?_ (by assumption) ?_
  rotate_left 1
  · (intro wS hSw; (try dsimp only at hSw); go_simp; try with_reducible rfl)
  try simp only [Act.put, List.setIfInBounds_toArray, List.set_cons_zero, List.set_cons_succ]
  refine rg_take (i := 7) (d := some 82) (l := #[true, true, true, false, false, false, true, true, false, false, false, false]) (fuel := 7) (v := ?_) rfl (by kernel_rfl) (by kernel_rfl) (by kernel_rfl) (by kernel_rfl) (by kernel_rfl) (fun _ _ _ h => h) (by kernel_rfl) ?_ (by assumption) ?_
  rotate_left 1
  · (intro wS hSw; (try dsimp only at hSw); go_simp; try with_reducible rfl)
  try simp only [Act.put, List.setIfInBounds_toArray, List.set_cons_zero, List.set_cons_succ]
  have HBL := Lib.hid hHeld.1
  have HC := Lib.hid (cell_lt hHeld.2)
  have HCC := Lib.hid hHeld.2
  refine rg_next (i := 3) (l := #[true, true, true, true, false, false, true, true, false, false, false, false]) (fuel := 6) (by kernel_rfl) rfl (by kernel_rfl) (by kernel_rfl) (fun K hK => ?_)
  go_simp
  skip
  first | (refine hK.out _ _ ?_ (fun hHeld => ?_)) | (go_wp2_with fail; refine hK.out _ _ ?_ (fun hHeld => ?_))
  · (try dsimp only); exact ⟨hHeld.1.alloc hHeld.1.size _, ((Below.refl _ _).alloc (Nat.le_refl _) _).cell (by exact cell_lt hHeld.2) |>.trans hHeld.2⟩
  clear hK K
  try simp only [Act.put, List.setIfInBounds_toArray, List.set_cons_zero, List.set_cons_succ]
  refine rg_next (i := 4) (l := #[true, true, true, true, true, false, true, true, false, false, false, false]) (fuel := 5) (by kernel_rfl) rfl (by kernel_rfl) (by kernel_rfl) (fun K hK => ?_)
  go_simp
  (go_at_call 39)
  refine (hS w1.drew).mono ?_
  rintro e w2 ⟨rfl, b2⟩
  first | (refine hK.out _ _ ?_ (fun hHeld => ?_)) | (go_wp2_with fail; refine hK.out _ _ ?_ (fun hHeld => ?_))
  · (try dsimp only); exact ⟨HBL.out.trans (b2.mono HBL.out.size), (b2.cell (by exact HC.out)).trans HCC.out⟩
  clear hK K
  try simp only [Act.put, List.setIfInBounds_toArray, List.set_cons_zero, List.set_cons_succ]
  refine rg_take (i := 5) (d := some 80) (l := #[true, true, true, true, true, true, true, true, false, false, false, false]) (fuel := 4) (v := ?_) rfl (by kernel_rfl) (by kernel_rfl) (by kernel_rfl) (by kernel_rfl) (by kernel_rfl) (fun _ _ _ h => h) (by kernel_rfl) ?_ (by assumption) ?_
  rotate_left 1
  · (intro wS hSw; (try dsimp only at hSw); go_simp; try with_reducible rfl)
  try simp only [Act.put, List.setIfInBounds_toArray, List.set_cons_zero, List.set_cons_succ]
  refine rg_next (i := 8) (l := #[true, true, true, true, true, true, true, true, true, false, false, false]) (fuel := 3) (by kernel_rfl) rfl (by kernel_rfl) (by kernel_rfl) (fun K hK => ?_)
  go_simp
  (go_at_call 39)
  refine (hV _ (HR1.out.keep hHeld.1)).mono ?_
  rintro e w2 ⟨rfl, b2⟩
  first | (refine hK.out _ _ ?_ (fun hHeld => ?_)) | (go_wp2_with fail; refine hK.out _ _ ?_ (fun hHeld => ?_))
  · (try dsimp only); exact ⟨hHeld.1.trans (b2.mono hHeld.1.size), (b2.cell (by exact cell_lt hHeld.2)).trans hHeld.2⟩
  clear hK K
  try simp only [Act.put, List.setIfInBounds_toArray, List.set_cons_zero, List.set_cons_succ]
  have HBL := Lib.hid hHeld.1
  have HC := Lib.hid (cell_lt hHeld.2)
  have HCC := Lib.hid hHeld.2
  refine rg_next (i := 9) (l := #[true, true, true, true, true, true, true, true, true, true, false, false]) (fuel := 2) (by kernel_rfl) rfl (by kernel_rfl) (by kernel_rfl) (fun K hK => ?_)
  go_simp
  skip
  first | (refine hK.out _ _ ?_ (fun hHeld => ?_)) | (go_wp2_with fail; refine hK.out _ _ ?_ (fun hHeld => ?_))
  · (try dsimp only); exact ⟨hHeld.1.alloc hHeld.1.size _, ((Below.refl _ _).alloc (Nat.le_refl _) _).cell (by exact cell_lt hHeld.2) |>.trans hHeld.2⟩
  clear hK K
  try simp only [Act.put, List.setIfInBounds_toArray, List.set_cons_zero, List.set_cons_succ]
  refine rg_next (i := 10) (l := #[true, true, true, true, true, true, true, true, true, true, true, false]) (fuel := 1) (by kernel_rfl) rfl (by kernel_rfl) (by kernel_rfl) (fun K hK => ?_)
  go_simp
  (go_at_call 54)
  refine (mjoinN_3 (⟨#[35]⟩ ++ S) V ⟨#[88]⟩ (by rw [ByteArray.size_append]; have q35 : (⟨#[35]⟩ : ByteArray).size = 1 := rfl; omega) (by omega) (by decide) _).mono ?_
  rintro e w5 ⟨rfl, b2⟩
  first | (refine hK.out _ _ ?_ (fun hHeld => ?_)) | (go_wp2_with fail; refine hK.out _ _ ?_ (fun hHeld => ?_))
  · (try dsimp only); exact ⟨HBL.out.trans (b2.mono HBL.out.size), (b2.cell (by exact HC.out)).trans HCC.out⟩
  clear hK K
  try simp only [Act.put, List.setIfInBounds_toArray, List.set_cons_zero, List.set_cons_succ]
  refine rg_take (i := 11) (d := some 6) (l := #[true, true, true, true, true, true, true, true, true, true, true, true]) (fuel := 0) (v := ?_) rfl (by kernel_rfl) (by kernel_rfl) (by kernel_rfl) (by kernel_rfl) (by kernel_rfl) (fun _ _ _ h => h) (by kernel_rfl) ?_ (by assumption) ?_
  rotate_left 1
  · (intro wS hSw; (try dsimp only at hSw); go_simp; try with_reducible rfl)
  try simp only [Act.put, List.setIfInBounds_toArray, List.set_cons_zero, List.set_cons_succ]
  refine wpAnyH_done (by kernel_rfl) ?_ _
  go_wp2_with fail
  go_ret
  exact ⟨congrArg (fun s => Ending.returned (Value.string s)) HE.out, HB1.out.trans (hHeld.1.mono HB1.out.size)⟩
set_option maxHeartbeats 8000000 in
theorem mmean_19 (ad : Addr) (c : Nat) (z : Nat → Int) (b : Int) (b0 : 0 ≤ b) (b1 : b ≤ 65535) (hc : 6 ≤ c) (w : World) (R : IRow w .u8 (some ad) 6 z) : Calls Tryd.prog 40 #[.int .u8 19, .slice (some ad) 6 c, .int .u16 b] w fun e w' => e = .returned (.string (mkS (opdU 19 z b))) ∧ Below w.heap.size w w' := by
  have hD := fun W (Q : IRow W .u8 (some ad) 6 z) => mdist_any 19 (some ad) 6 c z hc W Q
  have eD : dstP 19 6 z = #[.int .u8 (0), .bool false] := rfl
  rw [eD] at hD
  clear eD
  obtain ⟨z00, z01⟩ := (R.bd 0 (by decide))
  obtain ⟨z10, z11⟩ := (R.bd 1 (by decide))
  obtain ⟨z20, z21⟩ := (R.bd 2 (by decide))
  obtain ⟨z30, z31⟩ := (R.bd 3 (by decide))
  obtain ⟨z40, z41⟩ := (R.bd 4 (by decide))
  obtain ⟨z50, z51⟩ := (R.bd 5 (by decide))
  have hT := fun W => mtarget_any b (0) b0 b1 (by omega) (by omega) W
  obtain ⟨t, ht⟩ : ∃ t, tgtP b (0) = t := ⟨_, rfl⟩
  have t0 : 0 ≤ t := by rw [← ht]; unfold tgtP; omega
  have t1 : t ≤ 65535 := by rw [← ht]; unfold tgtP; omega
  rw [ht] at hT
  have eT : True := by trivial
  clear ht
  have e1 : IntKind.u8.wrap t = t % 256 := u8_mod t
  have e2 : IntKind.u8.wrap (t / 256) = t / 256 := by rw [u8_mod]; omega
  obtain ⟨TO, hTO⟩ : ∃ TO, mkS (W2 t) = TO := ⟨_, rfl⟩
  have sTO : TO.size = 5 := by rw [← hTO, mkS_size', W2_len]
  have hNT := fun W => mnumN_2 (t % 256) (t / 256) (by omega) (by omega) (by omega) (by omega) W
  rw [show N2 (t % 256) (t / 256) = W2 t from rfl, hTO] at hNT
  have hS := fun W (Q : IRow W .u8 (some ad) 6 z) => mnum_2 (some ad) c z (by omega) W (Q.first 2 (by decide))
  obtain ⟨S, eS⟩ : ∃ S, mkS (N2 (z 0) (z 1)) = S := ⟨_, rfl⟩
  have sS : S.size = 5 := by rw [← eS, mkS_size', N2_len]
  skip
  rw [eS] at hS
  have hV := fun W (Q : IRow W .u8 (some ad) 6 z) => mnum_2 (some ⟨ad.block, ad.off + 2, none⟩) (c - 2) (fun i => z (i + 2)) (by omega) W ((Q.shift 2).first 2 (by decide))
  obtain ⟨V, eV⟩ : ∃ V, mkS (N2 (z 2) (z 3)) = V := ⟨_, rfl⟩
  have sV : V.size = 5 := by rw [← eV, mkS_size', N2_len]
  simp only [show (0 + 2 : Nat) = 2 from rfl, show (1 + 2 : Nat) = 3 from rfl] at hV
  rw [eV] at hV
  have hU := fun W (Q : IRow W .u8 (some ad) 6 z) => mnum_2 (some ⟨ad.block, ad.off + 4, none⟩) (c - 4) (fun i => z (i + 4)) (by omega) W ((Q.shift 4).first 2 (by decide))
  obtain ⟨U, eU⟩ : ∃ U, mkS (N2 (z 4) (z 5)) = U := ⟨_, rfl⟩
  have sU : U.size = 5 := by rw [← eU, mkS_size', N2_len]
  simp only [show (0 + 4 : Nat) = 4 from rfl, show (1 + 4 : Nat) = 5 from rfl] at hU
  rw [eU] at hU
  have hE : (S ++ ⟨#[44]⟩ ++ V ++ ⟨#[44]⟩ ++ U : ByteArray) = mkS (opdU 19 z b) := by
    rw [← eS, ← eV, ← eU]
    show mkS (N2 (z 0) (z 1)) ++ mkS [44] ++ mkS (N2 (z 2) (z 3)) ++ mkS [44] ++ mkS (N2 (z 4) (z 5)) = _
    try simp only [mkS_cat]
    first | rfl | (unfold opdU; simp) | simp
  have HE := Lib.hid hE
  clear hE eT hTO eS eV eU
  have HR := Lib.hid R
  clear R
  go_enter Tryd.func40, Tryd.ntmps40
  go_wp2_with fail
  refine (hD _ HR.out).mono ?_
  rintro e w' ⟨rfl, rfl⟩
  go_wp2_with fail
  refine (hT _).mono ?_
  rintro e w' ⟨rfl, rfl⟩
  go_wp2_with (first
    | (go_at_call 34; refine (lo_any _ _).mono ?_; rintro e w' ⟨rfl, rfl⟩)
    | (go_at_call 53; refine (hi_any _ _).mono ?_; rintro e w' ⟨rfl, rfl⟩))
  refine (hNT _).mono ?_
  rintro e w1 ⟨rfl, hb1⟩
  have HB1 := Lib.hid hb1
  have HR1 := Lib.hid (HR.out.keep hb1)
  clear hD hT hNT hb1 HR
  have hc0 : w1.cell? ad = some (.int .u8 (z 0)) := HR1.out.cellv 0 (by decide)
  have k1 : (1 : Int) ≤ c := by omega
  have n1 : ¬ c = 1 := by omega
  have n2 : ¬ c = 2 := by first | trivial | omega
  have n4 : ¬ c = 4 := by first | trivial | omega
  have k2 : (2 : Int) ≤ c := by first | trivial | omega
  have k4 : (4 : Int) ≤ c := by omega
  go_wp2_with fail
  refine rg_begin (S := fun w' => Below w1.heap.size w1 w' ∧ w'.cell? ad = some (.int .u8 (z 0))) 12 #[false, false, false, false, false, false, false, false, false, false, false, false] (by kernel_rfl) (by kernel_rfl) (by kernel_rfl) ?_ (fun hHeld => ?_)
  · exact ⟨(Below.refl _ w1).drew, hc0⟩
  refine rg_take (i := 0) (d := some 42) (l := #[true, false, false, false, false, false, false, false, false, false, false, false]) (fuel := 11) (v := ?_) rfl (by kernel_rfl) (by kernel_rfl) (by kernel_rfl) (by kernel_rfl) (by kernel_rfl) (fun _ _ _ h => h) (by kernel_rfl) ?_ (by assumption) ?_
  rotate_left 1
  · (intro wS hSw; (try dsimp only at hSw); go_simp; try with_reducible rfl)
  try simp only [Act.put, List.setIfInBounds_toArray, List.set_cons_zero, List.set_cons_succ]
  refine rg_take (i := 1) (d := some 43) (l := #[true, true, false, false, false, false, false, false, false, false, false, false]) (fuel := 10) (v := ?_) rfl (by kernel_rfl) (by kernel_rfl) (by kernel_rfl) (by kernel_rfl) (by kernel_rfl) (fun _ _ _ h => h) (by kernel_rfl) ?_ (by assumption) ?_
  rotate_left 1
  · (intro wS hSw; (try dsimp only at hSw); go_simp; try with_reducible rfl)
  try simp only [Act.put, List.setIfInBounds_toArray, List.set_cons_zero, List.set_cons_succ]
  refine rg_take (i := 3) (d := some 45) (l := #[true, true, false, true, false, false, false, false, false, false, false, false]) (fuel := 9) (v := ?_) rfl (by kernel_rfl) (by kernel_rfl) (by kernel_rfl) (by kernel_rfl) (by kernel_rfl) (fun _ _ _ h => h) (by kernel_rfl) ?_ (by assumption) ?_
  rotate_left 1
  · (intro wS hSw; (try dsimp only at hSw); go_simp; try with_reducible rfl)
  try simp only [Act.put, List.setIfInBounds_toArray, List.set_cons_zero, List.set_cons_succ]
  refine rg_take (i := 4) (d := some 46) (l := #[true, true, false, true, true, false, false, false, false, false, false, false]) (fuel := 8) (v := ?_) rfl (by kernel_rfl) (by kernel_rfl) (by kernel_rfl) (by kernel_rfl) (by kernel_rfl) (fun _ _ _ h => h) (by kernel_rfl) ?_ (by assumption) ?_
  rotate_left 1
  · (intro wS hSw; (try dsimp only at hSw); go_simp; try with_reducible rfl)
  try simp only [Act.put, List.setIfInBounds_toArray, List.set_cons_zero, List.set_cons_succ]
  refine rg_take (i := 6) (d := some 48) (l := #[true, true, false, true, true, false, true, false, false, false, false, false]) (fuel := 7) (v := ?_) rfl (by kernel_rfl) (by kernel_rfl) (by kernel_rfl) (by kernel_rfl) (by kernel_rfl) (fun _ _ _ h => h) (by kernel_rfl) ?_ (by assumption) ?_
  rotate_left 1
  · (intro wS hSw; (try dsimp only at hSw); go_simp; try with_reducible rfl)
  try simp only [Act.put, List.setIfInBounds_toArray, List.set_cons_zero, List.set_cons_succ]
  refine rg_take (i := 7) (d := some 49) (l := #[true, true, false, true, true, false, true, true, false, false, false, false]) (fuel := 6) (v := ?_) rfl (by kernel_rfl) (by kernel_rfl) (by kernel_rfl) (by kernel_rfl) (by kernel_rfl) (fun _ _ _ h => h) (by kernel_rfl) ?_ (by assumption) ?_
  rotate_left 1
  · (intro wS hSw; (try dsimp only at hSw); go_simp; try with_reducible rfl)
  try simp only [Act.put, List.setIfInBounds_toArray, List.set_cons_zero, List.set_cons_succ]
  refine rg_next (i := 2) (l := #[true, true, true, true, true, false, true, true, false, false, false, false]) (fuel := 5) (by kernel_rfl) rfl (by kernel_rfl) (by kernel_rfl) (fun K hK => ?_)
  go_simp
  (go_at_call 39)
  refine (hS _ (HR1.out.keep hHeld.1)).mono ?_
  rintro e w2 ⟨rfl, b2⟩
  first | (refine hK.out _ _ ?_ (fun hHeld => ?_)) | (go_wp2_with fail; refine hK.out _ _ ?_ (fun hHeld => ?_))
  · (try dsimp only); exact ⟨hHeld.1.trans (b2.mono hHeld.1.size), (b2.cell (by exact cell_lt hHeld.2)).trans hHeld.2⟩
  clear hK K
  try simp only [Act.put, List.setIfInBounds_toArray, List.set_cons_zero, List.set_cons_succ]
  refine rg_next (i := 5) (l := #[true, true, true, true, true, true, true, true, false, false, false, false]) (fuel := 4) (by kernel_rfl) rfl (by kernel_rfl) (by kernel_rfl) (fun K hK => ?_)
  go_simp
  (go_at_call 39)
  refine (hV _ (HR1.out.keep hHeld.1)).mono ?_
  rintro e w2 ⟨rfl, b2⟩
  first | (refine hK.out _ _ ?_ (fun hHeld => ?_)) | (go_wp2_with fail; refine hK.out _ _ ?_ (fun hHeld => ?_))
  · (try dsimp only); exact ⟨hHeld.1.trans (b2.mono hHeld.1.size), (b2.cell (by exact cell_lt hHeld.2)).trans hHeld.2⟩
  clear hK K
  try simp only [Act.put, List.setIfInBounds_toArray, List.set_cons_zero, List.set_cons_succ]
  refine rg_next (i := 8) (l := #[true, true, true, true, true, true, true, true, true, false, false, false]) (fuel := 3) (by kernel_rfl) rfl (by kernel_rfl) (by kernel_rfl) (fun K hK => ?_)
  go_simp
  (go_at_call 39)
  refine (hU _ (HR1.out.keep hHeld.1)).mono ?_
  rintro e w2 ⟨rfl, b2⟩
  first | (refine hK.out _ _ ?_ (fun hHeld => ?_)) | (go_wp2_with fail; refine hK.out _ _ ?_ (fun hHeld => ?_))
  · (try dsimp only); exact ⟨hHeld.1.trans (b2.mono hHeld.1.size), (b2.cell (by exact cell_lt hHeld.2)).trans hHeld.2⟩
  clear hK K
  try simp only [Act.put, List.setIfInBounds_toArray, List.set_cons_zero, List.set_cons_succ]
  have HBL := Lib.hid hHeld.1
  have HC := Lib.hid (cell_lt hHeld.2)
  have HCC := Lib.hid hHeld.2
  refine rg_next (i := 9) (l := #[true, true, true, true, true, true, true, true, true, true, false, false]) (fuel := 2) (by kernel_rfl) rfl (by kernel_rfl) (by kernel_rfl) (fun K hK => ?_)
  go_simp
  skip
  first | (refine hK.out _ _ ?_ (fun hHeld => ?_)) | (go_wp2_with fail; refine hK.out _ _ ?_ (fun hHeld => ?_))
  · (try dsimp only); exact ⟨hHeld.1.alloc hHeld.1.size _, ((Below.refl _ _).alloc (Nat.le_refl _) _).cell (by exact cell_lt hHeld.2) |>.trans hHeld.2⟩
  clear hK K
  try simp only [Act.put, List.setIfInBounds_toArray, List.set_cons_zero, List.set_cons_succ]
  refine rg_next (i := 10) (l := #[true, true, true, true, true, true, true, true, true, true, true, false]) (fuel := 1) (by kernel_rfl) rfl (by kernel_rfl) (by kernel_rfl) (fun K hK => ?_)
  go_simp
  (go_at_call 54)
  refine (mjoinN_3 S V U (by omega) (by omega) (by omega) _).mono ?_
  rintro e w5 ⟨rfl, b2⟩
  first | (refine hK.out _ _ ?_ (fun hHeld => ?_)) | (go_wp2_with fail; refine hK.out _ _ ?_ (fun hHeld => ?_))
  · (try dsimp only); exact ⟨HBL.out.trans (b2.mono HBL.out.size), (b2.cell (by exact HC.out)).trans HCC.out⟩
  clear hK K
  try simp only [Act.put, List.setIfInBounds_toArray, List.set_cons_zero, List.set_cons_succ]
  refine rg_take (i := 11) (d := some 6) (l := #[true, true, true, true, true, true, true, true, true, true, true, true]) (fuel := 0) (v := ?_) rfl (by kernel_rfl) (by kernel_rfl) (by kernel_rfl) (by kernel_rfl) (by kernel_rfl) (fun _ _ _ h => h) (by kernel_rfl) ?_ (by assumption) ?_
  rotate_left 1
  · (intro wS hSw; (try dsimp only at hSw); go_simp; try with_reducible rfl)
  try simp only [Act.put, List.setIfInBounds_toArray, List.set_cons_zero, List.set_cons_succ]
  refine wpAnyH_done (by kernel_rfl) ?_ _
  go_wp2_with fail
  go_ret
  exact ⟨congrArg (fun s => Ending.returned (Value.string s)) HE.out, HB1.out.trans (hHeld.1.mono HB1.out.size)⟩
end Go.Proofs.YtdhnnegigjjoeaaDoor
