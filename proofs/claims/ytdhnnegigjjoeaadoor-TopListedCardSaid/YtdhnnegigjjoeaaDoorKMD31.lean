/-
  Texts of these proofs, one behind the other: Rmd3.
-/
import Derived.Test.YtdhnnegigjjoeaaDoorKMD27
import Derived.Test.YtdhnnegigjjoeaaDoorKMD25
import Derived.Test.YtdhnnegigjjoeaaDoorKMD30
import Derived.Deep.QuietTactic
import Derived.Deep.RegionWith
import Derived.BigQuiet
namespace Go.Proofs.YtdhnnegigjjoeaaDoor
open Go.RowKit
set_option linter.unusedVariables false
set_option linter.unusedSimpArgs false
set_option maxRecDepth 100000
theorem rhex2_any (b : Int) (b0 : 0 ≤ b) (b1 : b ≤ 255) (w : World) : Calls Tryd.prog 22 #[.int .u32 b, .int .i64 2] w fun e w' => e = .returned (.string (mkS (hxU b))) ∧ w = w' := by
  rw [← str_hxU]
  exact rhex_any b 2 w b0 (by omega)
theorem rhex4_any (t : Int) (t0 : 0 ≤ t) (t1 : t ≤ 65535) (w : World) : Calls Tryd.prog 22 #[.int .u32 t, .int .i64 4] w fun e w' => e = .returned (.string (mkS (hxU (t / 256) ++ hxU (t % 256)))) ∧ w = w' := by
  rw [← str_W2]
  exact rhex_any t 4 w t0 (by omega)
set_option maxHeartbeats 1000000 in
theorem rh2_any (b : Int) (b0 : 0 ≤ b) (b1 : b ≤ 255) (w : World) : Calls Tryd.prog 36 #[.int .u8 b] w fun e w' => e = .returned (.string (mkS (N1 b))) ∧ w' = w := by
  have hH := fun W => rhex2_any b b0 b1 W
  have hE : (⟨#[36]⟩ : ByteArray) ++ mkS (hxU b) = mkS (N1 b) := mkS_cat [36] (hxU b)
  have hz : (mkS (hxU b)).size = 2 := by rw [mkS_size', hxU_len]
  obtain ⟨S, hS⟩ : ∃ S, mkS (hxU b) = S := ⟨_, rfl⟩
  rw [hS] at hH hE hz
  have HE := Lib.hid hE
  have e0 : IntKind.u32.wrap b = b := IntWalk.u32_in _ (by omega)
  clear hE hS
  go_enter Tryd.func36, Tryd.ntmps36
  go_wp2_with (go_at_call 22; refine (hH _).mono ?_; rintro e w' ⟨rfl, rfl⟩)
  go_ret
  exact ⟨congrArg (fun s => Ending.returned (Value.string s)) HE.out, rfl⟩
set_option maxHeartbeats 1000000 in
theorem rh4_any (t : Int) (t0 : 0 ≤ t) (t1 : t ≤ 65535) (w : World) : Calls Tryd.prog 52 #[.int .u16 t] w fun e w' => e = .returned (.string (mkS (W2 t))) ∧ w' = w := by
  have hH := fun W => rhex4_any t t0 t1 W
  have hE : (⟨#[36]⟩ : ByteArray) ++ mkS (hxU (t / 256) ++ hxU (t % 256)) = mkS (W2 t) := mkS_cat [36] _
  have hz : (mkS (hxU (t / 256) ++ hxU (t % 256))).size = 4 := by rw [mkS_size', List.length_append, hxU_len, hxU_len]
  obtain ⟨S, hS⟩ : ∃ S, mkS (hxU (t / 256) ++ hxU (t % 256)) = S := ⟨_, rfl⟩
  rw [hS] at hH hE hz
  have HE := Lib.hid hE
  have e0 : IntKind.u32.wrap t = t := IntWalk.u32_in _ (by omega)
  clear hE hS
  go_enter Tryd.func52, Tryd.ntmps52
  go_wp2_with (go_at_call 22; refine (hH _).mono ?_; rintro e w' ⟨rfl, rfl⟩)
  go_ret
  exact ⟨congrArg (fun s => Ending.returned (Value.string s)) HE.out, rfl⟩
theorem IRow.drewN {w : World} {k : IntKind} {A : Option Addr} {n : Nat} {z : Nat → Int} (R : IRow w k A n z) (d : Nat) : IRow (w.drewN d) k A n z := fun i hi => by
  obtain ⟨ad, e, hl, hc, hw⟩ := R i hi
  exact ⟨ad, e, by simpa using hl, by simpa using hc, hw⟩
set_option maxHeartbeats 8000000 in
theorem rop_1 (ad : Addr) (c : Nat) (z : Nat → Int) (b : Int) (b0 : 0 ≤ b) (b1 : b ≤ 65535) (hc : 1 ≤ c) (w : World) (R : IRow w .u8 (some ad) 1 z) : Calls Tryd.prog 37 #[.int .u8 1, .slice (some ad) 1 c, .int .u16 b] w fun e w' => e = .returned (.string (mkS (opdU 1 z b))) ∧ ∃ k, w' = w.drewN k := by
  obtain ⟨z00, z01⟩ := (R.bd 0 (by decide))
  have h1 := fun W => rh2_any (z 0) z00 z01 W
  obtain ⟨S1, e1⟩ : ∃ S, mkS (N1 (z 0)) = S := ⟨_, rfl⟩
  have s1 : S1.size = 3 := by rw [← e1, mkS_size', N1_len]
  rw [e1] at h1
  have hE : (⟨#[35]⟩ ++ S1 : ByteArray) = mkS (opdU 1 z b) := by
    rw [← e1]
    show mkS [35] ++ mkS (N1 (z 0)) = _
    try simp only [mkS_cat]
    simp [opdU]
  have HE := Lib.hid hE
  have hc0 : w.cell? ad = some (.int .u8 (z 0)) := R.cellv 0 (by decide)
  clear hE R e1
  go_enter Tryd.func37, Tryd.ntmps37
  go_wp2_with (first | (go_at_call 36; refine (h1 _).mono ?_; rintro e w' ⟨rfl, rfl⟩))
  go_ret
  exact ⟨congrArg (fun s => Ending.returned (Value.string s)) HE.out, ⟨0, rfl⟩⟩
set_option maxHeartbeats 8000000 in
theorem rop_2 (ad : Addr) (c : Nat) (z : Nat → Int) (b : Int) (b0 : 0 ≤ b) (b1 : b ≤ 65535) (hc : 1 ≤ c) (w : World) (R : IRow w .u8 (some ad) 1 z) : Calls Tryd.prog 37 #[.int .u8 2, .slice (some ad) 1 c, .int .u16 b] w fun e w' => e = .returned (.string (mkS (opdU 2 z b))) ∧ ∃ k, w' = w.drewN k := by
  obtain ⟨z00, z01⟩ := (R.bd 0 (by decide))
  have h1 := fun W => rh2_any (z 0) z00 z01 W
  obtain ⟨S1, e1⟩ : ∃ S, mkS (N1 (z 0)) = S := ⟨_, rfl⟩
  have s1 : S1.size = 3 := by rw [← e1, mkS_size', N1_len]
  rw [e1] at h1
  have hE : (S1 : ByteArray) = mkS (opdU 2 z b) := by
    rw [← e1]
    show mkS (N1 (z 0)) = _
    try simp only [mkS_cat]
    rfl
  have HE := Lib.hid hE
  have hc0 : w.cell? ad = some (.int .u8 (z 0)) := R.cellv 0 (by decide)
  clear hE R e1
  go_enter Tryd.func37, Tryd.ntmps37
  go_wp2_with (first | (go_at_call 36; refine (h1 _).mono ?_; rintro e w' ⟨rfl, rfl⟩))
  go_ret
  exact ⟨congrArg (fun s => Ending.returned (Value.string s)) HE.out, ⟨0, rfl⟩⟩
set_option maxHeartbeats 8000000 in
theorem rop_3 (ad : Addr) (c : Nat) (z : Nat → Int) (b : Int) (b0 : 0 ≤ b) (b1 : b ≤ 65535) (hc : 1 ≤ c) (w : World) (R : IRow w .u8 (some ad) 1 z) : Calls Tryd.prog 37 #[.int .u8 3, .slice (some ad) 1 c, .int .u16 b] w fun e w' => e = .returned (.string (mkS (opdU 3 z b))) ∧ ∃ k, w' = w.drewN k := by
  obtain ⟨z00, z01⟩ := (R.bd 0 (by decide))
  have h1 := fun W => rh2_any (z 0) z00 z01 W
  obtain ⟨S1, e1⟩ : ∃ S, mkS (N1 (z 0)) = S := ⟨_, rfl⟩
  have s1 : S1.size = 3 := by rw [← e1, mkS_size', N1_len]
  rw [e1] at h1
  have hE : (S1 ++ ⟨#[44, 88]⟩ : ByteArray) = mkS (opdU 3 z b) := by
    rw [← e1]
    show mkS (N1 (z 0)) ++ mkS [44, 88] = _
    try simp only [mkS_cat]
    simp [opdU]
  have HE := Lib.hid hE
  have hc0 : w.cell? ad = some (.int .u8 (z 0)) := R.cellv 0 (by decide)
  clear hE R e1
  go_enter Tryd.func37, Tryd.ntmps37
  go_wp2_with (first | (go_at_call 36; refine (h1 _).mono ?_; rintro e w' ⟨rfl, rfl⟩))
  go_ret
  exact ⟨congrArg (fun s => Ending.returned (Value.string s)) HE.out, ⟨0, rfl⟩⟩
set_option maxHeartbeats 8000000 in
theorem rop_4 (ad : Addr) (c : Nat) (z : Nat → Int) (b : Int) (b0 : 0 ≤ b) (b1 : b ≤ 65535) (hc : 1 ≤ c) (w : World) (R : IRow w .u8 (some ad) 1 z) : Calls Tryd.prog 37 #[.int .u8 4, .slice (some ad) 1 c, .int .u16 b] w fun e w' => e = .returned (.string (mkS (opdU 4 z b))) ∧ ∃ k, w' = w.drewN k := by
  obtain ⟨z00, z01⟩ := (R.bd 0 (by decide))
  have h1 := fun W => rh2_any (z 0) z00 z01 W
  obtain ⟨S1, e1⟩ : ∃ S, mkS (N1 (z 0)) = S := ⟨_, rfl⟩
  have s1 : S1.size = 3 := by rw [← e1, mkS_size', N1_len]
  rw [e1] at h1
  have hE : (S1 ++ ⟨#[44, 89]⟩ : ByteArray) = mkS (opdU 4 z b) := by
    rw [← e1]
    show mkS (N1 (z 0)) ++ mkS [44, 89] = _
    try simp only [mkS_cat]
    simp [opdU]
  have HE := Lib.hid hE
  have hc0 : w.cell? ad = some (.int .u8 (z 0)) := R.cellv 0 (by decide)
  clear hE R e1
  go_enter Tryd.func37, Tryd.ntmps37
  go_wp2_with (first | (go_at_call 36; refine (h1 _).mono ?_; rintro e w' ⟨rfl, rfl⟩))
  go_ret
  exact ⟨congrArg (fun s => Ending.returned (Value.string s)) HE.out, ⟨0, rfl⟩⟩
set_option maxHeartbeats 8000000 in
theorem rop_5 (ad : Addr) (c : Nat) (z : Nat → Int) (b : Int) (b0 : 0 ≤ b) (b1 : b ≤ 65535) (hc : 2 ≤ c) (w : World) (R : IRow w .u8 (some ad) 2 z) : Calls Tryd.prog 37 #[.int .u8 5, .slice (some ad) 2 c, .int .u16 b] w fun e w' => e = .returned (.string (mkS (opdU 5 z b))) ∧ ∃ k, w' = w.drewN k := by
  obtain ⟨z00, z01⟩ := (R.bd 0 (by decide))
  obtain ⟨z10, z11⟩ := (R.bd 1 (by decide))
  have g1 := fun W => rword_any (z 0) (z 1) z00 z01 z10 z11 W
  have h1 := fun W => rh4_any (z 0 + 256 * z 1) (by omega) (by omega) W
  rw [W2_word (z 0) (z 1) z00 z01] at h1
  obtain ⟨S1, e1⟩ : ∃ S, mkS (N2 (z 0) (z 1)) = S := ⟨_, rfl⟩
  have s1 : S1.size = 5 := by rw [← e1, mkS_size', N2_len]
  rw [e1] at h1
  generalize z 0 + 256 * z 1 = v1 at g1 h1
  have hE : (S1 : ByteArray) = mkS (opdU 5 z b) := by
    rw [← e1]
    show mkS (N2 (z 0) (z 1)) = _
    try simp only [mkS_cat]
    rfl
  have HE := Lib.hid hE
  have hc0 : w.cell? ad = some (.int .u8 (z 0)) := R.cellv 0 (by decide)
  have hc1 : w.cell? ⟨ad.block, ad.off + 1, none⟩ = some (.int .u8 (z 1)) := R.cellv 1 (by decide)
  clear hE R e1
  go_enter Tryd.func37, Tryd.ntmps37
  go_wp2_with fail
  go_quiet (first | (go_at_call_of 30 (Value.int .u8 (z 0)); refine Calls.quiet_of_same (g1 _)) | (go_at_call_of 52 (Value.int .u16 v1); refine Calls.quiet_of_same (h1 _)))
  go_wp2_with fail
  go_ret
  exact ⟨congrArg (fun s => Ending.returned (Value.string s)) HE.out, ⟨_, rfl⟩⟩
set_option maxHeartbeats 8000000 in
theorem rop_6 (ad : Addr) (c : Nat) (z : Nat → Int) (b : Int) (b0 : 0 ≤ b) (b1 : b ≤ 65535) (hc : 2 ≤ c) (w : World) (R : IRow w .u8 (some ad) 2 z) : Calls Tryd.prog 37 #[.int .u8 6, .slice (some ad) 2 c, .int .u16 b] w fun e w' => e = .returned (.string (mkS (opdU 6 z b))) ∧ ∃ k, w' = w.drewN k := by
  obtain ⟨z00, z01⟩ := (R.bd 0 (by decide))
  obtain ⟨z10, z11⟩ := (R.bd 1 (by decide))
  have g1 := fun W => rword_any (z 0) (z 1) z00 z01 z10 z11 W
  have h1 := fun W => rh4_any (z 0 + 256 * z 1) (by omega) (by omega) W
  rw [W2_word (z 0) (z 1) z00 z01] at h1
  obtain ⟨S1, e1⟩ : ∃ S, mkS (N2 (z 0) (z 1)) = S := ⟨_, rfl⟩
  have s1 : S1.size = 5 := by rw [← e1, mkS_size', N2_len]
  rw [e1] at h1
  generalize z 0 + 256 * z 1 = v1 at g1 h1
  have hE : (S1 ++ ⟨#[44, 88]⟩ : ByteArray) = mkS (opdU 6 z b) := by
    rw [← e1]
    show mkS (N2 (z 0) (z 1)) ++ mkS [44, 88] = _
    try simp only [mkS_cat]
    simp [opdU]
  have HE := Lib.hid hE
  have hc0 : w.cell? ad = some (.int .u8 (z 0)) := R.cellv 0 (by decide)
  have hc1 : w.cell? ⟨ad.block, ad.off + 1, none⟩ = some (.int .u8 (z 1)) := R.cellv 1 (by decide)
  clear hE R e1
  go_enter Tryd.func37, Tryd.ntmps37
  go_wp2_with fail
  go_quiet (first | (go_at_call_of 30 (Value.int .u8 (z 0)); refine Calls.quiet_of_same (g1 _)) | (go_at_call_of 52 (Value.int .u16 v1); refine Calls.quiet_of_same (h1 _)))
  go_wp2_with fail
  go_ret
  exact ⟨congrArg (fun s => Ending.returned (Value.string s)) HE.out, ⟨_, rfl⟩⟩
set_option maxHeartbeats 8000000 in
theorem rop_7 (ad : Addr) (c : Nat) (z : Nat → Int) (b : Int) (b0 : 0 ≤ b) (b1 : b ≤ 65535) (hc : 2 ≤ c) (w : World) (R : IRow w .u8 (some ad) 2 z) : Calls Tryd.prog 37 #[.int .u8 7, .slice (some ad) 2 c, .int .u16 b] w fun e w' => e = .returned (.string (mkS (opdU 7 z b))) ∧ ∃ k, w' = w.drewN k := by
  obtain ⟨z00, z01⟩ := (R.bd 0 (by decide))
  obtain ⟨z10, z11⟩ := (R.bd 1 (by decide))
  have g1 := fun W => rword_any (z 0) (z 1) z00 z01 z10 z11 W
  have h1 := fun W => rh4_any (z 0 + 256 * z 1) (by omega) (by omega) W
  rw [W2_word (z 0) (z 1) z00 z01] at h1
  obtain ⟨S1, e1⟩ : ∃ S, mkS (N2 (z 0) (z 1)) = S := ⟨_, rfl⟩
  have s1 : S1.size = 5 := by rw [← e1, mkS_size', N2_len]
  rw [e1] at h1
  generalize z 0 + 256 * z 1 = v1 at g1 h1
  have hE : (S1 ++ ⟨#[44, 89]⟩ : ByteArray) = mkS (opdU 7 z b) := by
    rw [← e1]
    show mkS (N2 (z 0) (z 1)) ++ mkS [44, 89] = _
    try simp only [mkS_cat]
    simp [opdU]
  have HE := Lib.hid hE
  have hc0 : w.cell? ad = some (.int .u8 (z 0)) := R.cellv 0 (by decide)
  have hc1 : w.cell? ⟨ad.block, ad.off + 1, none⟩ = some (.int .u8 (z 1)) := R.cellv 1 (by decide)
  clear hE R e1
  go_enter Tryd.func37, Tryd.ntmps37
  go_wp2_with fail
  go_quiet (first | (go_at_call_of 30 (Value.int .u8 (z 0)); refine Calls.quiet_of_same (g1 _)) | (go_at_call_of 52 (Value.int .u16 v1); refine Calls.quiet_of_same (h1 _)))
  go_wp2_with fail
  go_ret
  exact ⟨congrArg (fun s => Ending.returned (Value.string s)) HE.out, ⟨_, rfl⟩⟩
set_option maxHeartbeats 8000000 in
theorem rop_8 (ad : Addr) (c : Nat) (z : Nat → Int) (b : Int) (b0 : 0 ≤ b) (b1 : b ≤ 65535) (hc : 1 ≤ c) (w : World) (R : IRow w .u8 (some ad) 1 z) : Calls Tryd.prog 37 #[.int .u8 8, .slice (some ad) 1 c, .int .u16 b] w fun e w' => e = .returned (.string (mkS (opdU 8 z b))) ∧ ∃ k, w' = w.drewN k := by
  obtain ⟨z00, z01⟩ := (R.bd 0 (by decide))
  have h1 := fun W => rh2_any (z 0) z00 z01 W
  obtain ⟨S1, e1⟩ : ∃ S, mkS (N1 (z 0)) = S := ⟨_, rfl⟩
  have s1 : S1.size = 3 := by rw [← e1, mkS_size', N1_len]
  rw [e1] at h1
  have hE : (⟨#[40]⟩ ++ S1 ++ ⟨#[41]⟩ : ByteArray) = mkS (opdU 8 z b) := by
    rw [← e1]
    show mkS [40] ++ mkS (N1 (z 0)) ++ mkS [41] = _
    try simp only [mkS_cat]
    simp [opdU]
  have HE := Lib.hid hE
  have hc0 : w.cell? ad = some (.int .u8 (z 0)) := R.cellv 0 (by decide)
  clear hE R e1
  go_enter Tryd.func37, Tryd.ntmps37
  go_wp2_with (first | (go_at_call 36; refine (h1 _).mono ?_; rintro e w' ⟨rfl, rfl⟩))
  go_ret
  exact ⟨congrArg (fun s => Ending.returned (Value.string s)) HE.out, ⟨0, rfl⟩⟩
set_option maxHeartbeats 8000000 in
theorem rop_9 (ad : Addr) (c : Nat) (z : Nat → Int) (b : Int) (b0 : 0 ≤ b) (b1 : b ≤ 65535) (hc : 1 ≤ c) (w : World) (R : IRow w .u8 (some ad) 1 z) : Calls Tryd.prog 37 #[.int .u8 9, .slice (some ad) 1 c, .int .u16 b] w fun e w' => e = .returned (.string (mkS (opdU 9 z b))) ∧ ∃ k, w' = w.drewN k := by
  obtain ⟨z00, z01⟩ := (R.bd 0 (by decide))
  have h1 := fun W => rh2_any (z 0) z00 z01 W
  obtain ⟨S1, e1⟩ : ∃ S, mkS (N1 (z 0)) = S := ⟨_, rfl⟩
  have s1 : S1.size = 3 := by rw [← e1, mkS_size', N1_len]
  rw [e1] at h1
  have hE : (⟨#[40]⟩ ++ S1 ++ ⟨#[44, 88, 41]⟩ : ByteArray) = mkS (opdU 9 z b) := by
    rw [← e1]
    show mkS [40] ++ mkS (N1 (z 0)) ++ mkS [44, 88, 41] = _
    try simp only [mkS_cat]
    simp [opdU]
  have HE := Lib.hid hE
  have hc0 : w.cell? ad = some (.int .u8 (z 0)) := R.cellv 0 (by decide)
  clear hE R e1
  go_enter Tryd.func37, Tryd.ntmps37
  go_wp2_with (first | (go_at_call 36; refine (h1 _).mono ?_; rintro e w' ⟨rfl, rfl⟩))
  go_ret
  exact ⟨congrArg (fun s => Ending.returned (Value.string s)) HE.out, ⟨0, rfl⟩⟩
set_option maxHeartbeats 8000000 in
theorem rop_10 (ad : Addr) (c : Nat) (z : Nat → Int) (b : Int) (b0 : 0 ≤ b) (b1 : b ≤ 65535) (hc : 1 ≤ c) (w : World) (R : IRow w .u8 (some ad) 1 z) : Calls Tryd.prog 37 #[.int .u8 10, .slice (some ad) 1 c, .int .u16 b] w fun e w' => e = .returned (.string (mkS (opdU 10 z b))) ∧ ∃ k, w' = w.drewN k := by
  obtain ⟨z00, z01⟩ := (R.bd 0 (by decide))
  have h1 := fun W => rh2_any (z 0) z00 z01 W
  obtain ⟨S1, e1⟩ : ∃ S, mkS (N1 (z 0)) = S := ⟨_, rfl⟩
  have s1 : S1.size = 3 := by rw [← e1, mkS_size', N1_len]
  rw [e1] at h1
  have hE : (⟨#[40]⟩ ++ S1 ++ ⟨#[41, 44, 89]⟩ : ByteArray) = mkS (opdU 10 z b) := by
    rw [← e1]
    show mkS [40] ++ mkS (N1 (z 0)) ++ mkS [41, 44, 89] = _
    try simp only [mkS_cat]
    simp [opdU]
  have HE := Lib.hid hE
  have hc0 : w.cell? ad = some (.int .u8 (z 0)) := R.cellv 0 (by decide)
  clear hE R e1
  go_enter Tryd.func37, Tryd.ntmps37
  go_wp2_with (first | (go_at_call 36; refine (h1 _).mono ?_; rintro e w' ⟨rfl, rfl⟩))
  go_ret
  exact ⟨congrArg (fun s => Ending.returned (Value.string s)) HE.out, ⟨0, rfl⟩⟩
set_option maxHeartbeats 8000000 in
theorem rop_11 (ad : Addr) (c : Nat) (z : Nat → Int) (b : Int) (b0 : 0 ≤ b) (b1 : b ≤ 65535) (hc : 1 ≤ c) (w : World) (R : IRow w .u8 (some ad) 1 z) : Calls Tryd.prog 37 #[.int .u8 11, .slice (some ad) 1 c, .int .u16 b] w fun e w' => e = .returned (.string (mkS (opdU 11 z b))) ∧ ∃ k, w' = w.drewN k := by
  obtain ⟨z00, z01⟩ := (R.bd 0 (by decide))
  have g1 := fun W => (rtarget_any b (z 0) b0 b1 z00 z01 W).mono fun e w' h => (⟨h.1, h.2.symm⟩ : e = .returned (.int .u16 (tgtP b (z 0))) ∧ w' = W)
  have h1 := fun W => rh4_any (tgtP b (z 0)) (by unfold tgtP; omega) (by unfold tgtP; omega) W
  obtain ⟨S1, e1⟩ : ∃ S, mkS (W2 (tgtP b (z 0))) = S := ⟨_, rfl⟩
  have s1 : S1.size = 5 := by rw [← e1, mkS_size', W2_len]
  rw [e1] at h1
  obtain ⟨v1, f1⟩ : ∃ v, tgtP b (z 0) = v := ⟨_, rfl⟩
  rw [f1] at g1 h1
  have hE : (S1 : ByteArray) = mkS (opdU 11 z b) := by
    rw [← e1]
    show mkS (W2 (tgtP b (z 0))) = _
    try simp only [mkS_cat]
    rfl
  have HE := Lib.hid hE
  have hc0 : w.cell? ad = some (.int .u8 (z 0)) := R.cellv 0 (by decide)
  clear hE R f1 e1
  go_enter Tryd.func37, Tryd.ntmps37
  go_wp2_with (first | (go_at_call 18; refine (g1 _).mono ?_; rintro e w' ⟨rfl, rfl⟩) | (go_at_call 52; refine (h1 _).mono ?_; rintro e w' ⟨rfl, rfl⟩))
  go_ret
  exact ⟨congrArg (fun s => Ending.returned (Value.string s)) HE.out, ⟨0, rfl⟩⟩
set_option maxHeartbeats 8000000 in
theorem rop_12 (ad : Addr) (c : Nat) (z : Nat → Int) (b : Int) (b0 : 0 ≤ b) (b1 : b ≤ 65535) (hc : 2 ≤ c) (w : World) (R : IRow w .u8 (some ad) 2 z) : Calls Tryd.prog 37 #[.int .u8 12, .slice (some ad) 2 c, .int .u16 b] w fun e w' => e = .returned (.string (mkS (opdU 12 z b))) ∧ ∃ k, w' = w.drewN k := by
  obtain ⟨z00, z01⟩ := (R.bd 0 (by decide))
  obtain ⟨z10, z11⟩ := (R.bd 1 (by decide))
  have h1 := fun W => rh2_any (z 0) z00 z01 W
  obtain ⟨S1, e1⟩ : ∃ S, mkS (N1 (z 0)) = S := ⟨_, rfl⟩
  have s1 : S1.size = 3 := by rw [← e1, mkS_size', N1_len]
  rw [e1] at h1
  have g2 := fun W => (rtarget_any b (z 1) b0 b1 z10 z11 W).mono fun e w' h => (⟨h.1, h.2.symm⟩ : e = .returned (.int .u16 (tgtP b (z 1))) ∧ w' = W)
  have h2 := fun W => rh4_any (tgtP b (z 1)) (by unfold tgtP; omega) (by unfold tgtP; omega) W
  obtain ⟨S2, e2⟩ : ∃ S, mkS (W2 (tgtP b (z 1))) = S := ⟨_, rfl⟩
  have s2 : S2.size = 5 := by rw [← e2, mkS_size', W2_len]
  rw [e2] at h2
  obtain ⟨v2, f2⟩ : ∃ v, tgtP b (z 1) = v := ⟨_, rfl⟩
  rw [f2] at g2 h2
  have hE : (S1 ++ ⟨#[44]⟩ ++ S2 : ByteArray) = mkS (opdU 12 z b) := by
    rw [← e1, ← e2]
    show mkS (N1 (z 0)) ++ mkS [44] ++ mkS (W2 (tgtP b (z 1))) = _
    try simp only [mkS_cat]
    simp [opdU]
  have HE := Lib.hid hE
  have hc0 : w.cell? ad = some (.int .u8 (z 0)) := R.cellv 0 (by decide)
  have hc1 : w.cell? ⟨ad.block, ad.off + 1, none⟩ = some (.int .u8 (z 1)) := R.cellv 1 (by decide)
  clear hE R e1 f2 e2
  go_enter Tryd.func37, Tryd.ntmps37
  go_wp2_with fail
  go_quiet (first | (go_at_call 36; refine Calls.quiet_of_same (h1 _)) | (go_at_call 18; refine Calls.quiet_of_same (g2 _)) | (go_at_call_of 52 (Value.int .u16 v2); refine Calls.quiet_of_same (h2 _)))
  go_wp2_with fail
  go_ret
  exact ⟨congrArg (fun s => Ending.returned (Value.string s)) HE.out, ⟨_, rfl⟩⟩
set_option maxHeartbeats 8000000 in
theorem rop_13 (ad : Addr) (c : Nat) (z : Nat → Int) (b : Int) (b0 : 0 ≤ b) (b1 : b ≤ 65535) (hc : 2 ≤ c) (w : World) (R : IRow w .u8 (some ad) 2 z) : Calls Tryd.prog 37 #[.int .u8 13, .slice (some ad) 2 c, .int .u16 b] w fun e w' => e = .returned (.string (mkS (opdU 13 z b))) ∧ ∃ k, w' = w.drewN k := by
  obtain ⟨z00, z01⟩ := (R.bd 0 (by decide))
  obtain ⟨z10, z11⟩ := (R.bd 1 (by decide))
  have h1 := fun W => rh2_any (z 0) z00 z01 W
  obtain ⟨S1, e1⟩ : ∃ S, mkS (N1 (z 0)) = S := ⟨_, rfl⟩
  have s1 : S1.size = 3 := by rw [← e1, mkS_size', N1_len]
  rw [e1] at h1
  have h2 := fun d => rop_2 ⟨ad.block, ad.off + 1, none⟩ (c - 1) (fun i => z (i + 1)) b b0 b1 (by omega) (w.drewN d) (IRow.drewN (R.shift 1) d)
  obtain ⟨S2, e2⟩ : ∃ S, mkS (opdU 2 (fun i => z (i + 1)) b) = S := ⟨_, rfl⟩
  have s2 : S2.size = 3 := by rw [← e2, mkS_size']; simp [opdU, N1_len, N2_len]
  rw [e2] at h2
  have n1 : ¬ c = 1 := by omega
  have k1 : (1 : Int) ≤ c := by omega
  have hix : ∀ W : World, (Instr.index 75 (.agg #[.int .u8 2, .int .u8 3, .int .u8 5, .int .u8 6]) (.int .u8 0)).run Tryd.prog W = .ok (.int .u8 2) W := fun W => by kernel_rfl
  have hE : (⟨#[35]⟩ ++ S1 ++ ⟨#[44]⟩ ++ S2 : ByteArray) = mkS (opdU 13 z b) := by
    rw [← e1, ← e2]
    show mkS [35] ++ mkS (N1 (z 0)) ++ mkS [44] ++ mkS (opdU 2 (fun i => z (i + 1)) b) = _
    try simp only [mkS_cat]
    simp [opdU]
  have HE := Lib.hid hE
  have hc0 : w.cell? ad = some (.int .u8 (z 0)) := R.cellv 0 (by decide)
  clear hE R e1 e2
  go_enter Tryd.func37, Tryd.ntmps37
  go_wp2_with fail
  go_quiet (first | (go_at_call 36; refine Calls.quiet_of_same (h1 _)) | (go_at_call 37; refine Calls.quiet_of (h2 _)))
  go_wp2_with fail
  go_ret
  exact ⟨congrArg (fun s => Ending.returned (Value.string s)) HE.out, ⟨_, rfl⟩⟩
set_option maxHeartbeats 8000000 in
theorem rop_14 (ad : Addr) (c : Nat) (z : Nat → Int) (b : Int) (b0 : 0 ≤ b) (b1 : b ≤ 65535) (hc : 2 ≤ c) (w : World) (R : IRow w .u8 (some ad) 2 z) : Calls Tryd.prog 37 #[.int .u8 14, .slice (some ad) 2 c, .int .u16 b] w fun e w' => e = .returned (.string (mkS (opdU 14 z b))) ∧ ∃ k, w' = w.drewN k := by
  obtain ⟨z00, z01⟩ := (R.bd 0 (by decide))
  obtain ⟨z10, z11⟩ := (R.bd 1 (by decide))
  have h1 := fun W => rh2_any (z 0) z00 z01 W
  obtain ⟨S1, e1⟩ : ∃ S, mkS (N1 (z 0)) = S := ⟨_, rfl⟩
  have s1 : S1.size = 3 := by rw [← e1, mkS_size', N1_len]
  rw [e1] at h1
  have h2 := fun d => rop_3 ⟨ad.block, ad.off + 1, none⟩ (c - 1) (fun i => z (i + 1)) b b0 b1 (by omega) (w.drewN d) (IRow.drewN (R.shift 1) d)
  obtain ⟨S2, e2⟩ : ∃ S, mkS (opdU 3 (fun i => z (i + 1)) b) = S := ⟨_, rfl⟩
  have s2 : S2.size = 5 := by rw [← e2, mkS_size']; simp [opdU, N1_len, N2_len]
  rw [e2] at h2
  have n1 : ¬ c = 1 := by omega
  have k1 : (1 : Int) ≤ c := by omega
  have hix : ∀ W : World, (Instr.index 75 (.agg #[.int .u8 2, .int .u8 3, .int .u8 5, .int .u8 6]) (.int .u8 1)).run Tryd.prog W = .ok (.int .u8 3) W := fun W => by kernel_rfl
  have hE : (⟨#[35]⟩ ++ S1 ++ ⟨#[44]⟩ ++ S2 : ByteArray) = mkS (opdU 14 z b) := by
    rw [← e1, ← e2]
    show mkS [35] ++ mkS (N1 (z 0)) ++ mkS [44] ++ mkS (opdU 3 (fun i => z (i + 1)) b) = _
    try simp only [mkS_cat]
    simp [opdU]
  have HE := Lib.hid hE
  have hc0 : w.cell? ad = some (.int .u8 (z 0)) := R.cellv 0 (by decide)
  clear hE R e1 e2
  go_enter Tryd.func37, Tryd.ntmps37
  go_wp2_with fail
  go_quiet (first | (go_at_call 36; refine Calls.quiet_of_same (h1 _)) | (go_at_call 37; refine Calls.quiet_of (h2 _)))
  go_wp2_with fail
  go_ret
  exact ⟨congrArg (fun s => Ending.returned (Value.string s)) HE.out, ⟨_, rfl⟩⟩
set_option maxHeartbeats 8000000 in
theorem rop_15 (ad : Addr) (c : Nat) (z : Nat → Int) (b : Int) (b0 : 0 ≤ b) (b1 : b ≤ 65535) (hc : 3 ≤ c) (w : World) (R : IRow w .u8 (some ad) 3 z) : Calls Tryd.prog 37 #[.int .u8 15, .slice (some ad) 3 c, .int .u16 b] w fun e w' => e = .returned (.string (mkS (opdU 15 z b))) ∧ ∃ k, w' = w.drewN k := by
  obtain ⟨z00, z01⟩ := (R.bd 0 (by decide))
  obtain ⟨z10, z11⟩ := (R.bd 1 (by decide))
  obtain ⟨z20, z21⟩ := (R.bd 2 (by decide))
  have h1 := fun W => rh2_any (z 0) z00 z01 W
  obtain ⟨S1, e1⟩ : ∃ S, mkS (N1 (z 0)) = S := ⟨_, rfl⟩
  have s1 : S1.size = 3 := by rw [← e1, mkS_size', N1_len]
  rw [e1] at h1
  have h2 := fun d => rop_5 ⟨ad.block, ad.off + 1, none⟩ (c - 1) (fun i => z (i + 1)) b b0 b1 (by omega) (w.drewN d) (IRow.drewN (R.shift 1) d)
  obtain ⟨S2, e2⟩ : ∃ S, mkS (opdU 5 (fun i => z (i + 1)) b) = S := ⟨_, rfl⟩
  have s2 : S2.size = 5 := by rw [← e2, mkS_size']; simp [opdU, N1_len, N2_len]
  rw [e2] at h2
  have n1 : ¬ c = 1 := by omega
  have k1 : (1 : Int) ≤ c := by omega
  have hix : ∀ W : World, (Instr.index 75 (.agg #[.int .u8 2, .int .u8 3, .int .u8 5, .int .u8 6]) (.int .u8 2)).run Tryd.prog W = .ok (.int .u8 5) W := fun W => by kernel_rfl
  have hE : (⟨#[35]⟩ ++ S1 ++ ⟨#[44]⟩ ++ S2 : ByteArray) = mkS (opdU 15 z b) := by
    rw [← e1, ← e2]
    show mkS [35] ++ mkS (N1 (z 0)) ++ mkS [44] ++ mkS (opdU 5 (fun i => z (i + 1)) b) = _
    try simp only [mkS_cat]
    simp [opdU]
  have HE := Lib.hid hE
  have hc0 : w.cell? ad = some (.int .u8 (z 0)) := R.cellv 0 (by decide)
  clear hE R e1 e2
  go_enter Tryd.func37, Tryd.ntmps37
  go_wp2_with fail
  go_quiet (first | (go_at_call 36; refine Calls.quiet_of_same (h1 _)) | (go_at_call 37; refine Calls.quiet_of (h2 _)))
  go_wp2_with fail
  go_ret
  exact ⟨congrArg (fun s => Ending.returned (Value.string s)) HE.out, ⟨_, rfl⟩⟩
set_option maxHeartbeats 8000000 in
theorem rop_16 (ad : Addr) (c : Nat) (z : Nat → Int) (b : Int) (b0 : 0 ≤ b) (b1 : b ≤ 65535) (hc : 3 ≤ c) (w : World) (R : IRow w .u8 (some ad) 3 z) : Calls Tryd.prog 37 #[.int .u8 16, .slice (some ad) 3 c, .int .u16 b] w fun e w' => e = .returned (.string (mkS (opdU 16 z b))) ∧ ∃ k, w' = w.drewN k := by
  obtain ⟨z00, z01⟩ := (R.bd 0 (by decide))
  obtain ⟨z10, z11⟩ := (R.bd 1 (by decide))
  obtain ⟨z20, z21⟩ := (R.bd 2 (by decide))
  have h1 := fun W => rh2_any (z 0) z00 z01 W
  obtain ⟨S1, e1⟩ : ∃ S, mkS (N1 (z 0)) = S := ⟨_, rfl⟩
  have s1 : S1.size = 3 := by rw [← e1, mkS_size', N1_len]
  rw [e1] at h1
  have h2 := fun d => rop_6 ⟨ad.block, ad.off + 1, none⟩ (c - 1) (fun i => z (i + 1)) b b0 b1 (by omega) (w.drewN d) (IRow.drewN (R.shift 1) d)
  obtain ⟨S2, e2⟩ : ∃ S, mkS (opdU 6 (fun i => z (i + 1)) b) = S := ⟨_, rfl⟩
  have s2 : S2.size = 7 := by rw [← e2, mkS_size']; simp [opdU, N1_len, N2_len]
  rw [e2] at h2
  have n1 : ¬ c = 1 := by omega
  have k1 : (1 : Int) ≤ c := by omega
  have hix : ∀ W : World, (Instr.index 75 (.agg #[.int .u8 2, .int .u8 3, .int .u8 5, .int .u8 6]) (.int .u8 3)).run Tryd.prog W = .ok (.int .u8 6) W := fun W => by kernel_rfl
  have hE : (⟨#[35]⟩ ++ S1 ++ ⟨#[44]⟩ ++ S2 : ByteArray) = mkS (opdU 16 z b) := by
    rw [← e1, ← e2]
    show mkS [35] ++ mkS (N1 (z 0)) ++ mkS [44] ++ mkS (opdU 6 (fun i => z (i + 1)) b) = _
    try simp only [mkS_cat]
    simp [opdU]
  have HE := Lib.hid hE
  have hc0 : w.cell? ad = some (.int .u8 (z 0)) := R.cellv 0 (by decide)
  clear hE R e1 e2
  go_enter Tryd.func37, Tryd.ntmps37
  go_wp2_with fail
  go_quiet (first | (go_at_call 36; refine Calls.quiet_of_same (h1 _)) | (go_at_call 37; refine Calls.quiet_of (h2 _)))
  go_wp2_with fail
  go_ret
  exact ⟨congrArg (fun s => Ending.returned (Value.string s)) HE.out, ⟨_, rfl⟩⟩
set_option maxHeartbeats 8000000 in
theorem rop_17 (ad : Addr) (c : Nat) (z : Nat → Int) (b : Int) (b0 : 0 ≤ b) (b1 : b ≤ 65535) (hc : 2 ≤ c) (w : World) (R : IRow w .u8 (some ad) 2 z) : Calls Tryd.prog 37 #[.int .u8 17, .slice (some ad) 2 c, .int .u16 b] w fun e w' => e = .returned (.string (mkS (opdU 17 z b))) ∧ ∃ k, w' = w.drewN k := by
  obtain ⟨z00, z01⟩ := (R.bd 0 (by decide))
  obtain ⟨z10, z11⟩ := (R.bd 1 (by decide))
  have g1 := fun W => rword_any (z 0) (z 1) z00 z01 z10 z11 W
  have h1 := fun W => rh4_any (z 0 + 256 * z 1) (by omega) (by omega) W
  rw [W2_word (z 0) (z 1) z00 z01] at h1
  obtain ⟨S1, e1⟩ : ∃ S, mkS (N2 (z 0) (z 1)) = S := ⟨_, rfl⟩
  have s1 : S1.size = 5 := by rw [← e1, mkS_size', N2_len]
  rw [e1] at h1
  generalize z 0 + 256 * z 1 = v1 at g1 h1
  have hE : (⟨#[40]⟩ ++ S1 ++ ⟨#[41]⟩ : ByteArray) = mkS (opdU 17 z b) := by
    rw [← e1]
    show mkS [40] ++ mkS (N2 (z 0) (z 1)) ++ mkS [41] = _
    try simp only [mkS_cat]
    simp [opdU]
  have HE := Lib.hid hE
  have hc0 : w.cell? ad = some (.int .u8 (z 0)) := R.cellv 0 (by decide)
  have hc1 : w.cell? ⟨ad.block, ad.off + 1, none⟩ = some (.int .u8 (z 1)) := R.cellv 1 (by decide)
  clear hE R e1
  go_enter Tryd.func37, Tryd.ntmps37
  go_wp2_with fail
  go_quiet (first | (go_at_call_of 30 (Value.int .u8 (z 0)); refine Calls.quiet_of_same (g1 _)) | (go_at_call_of 52 (Value.int .u16 v1); refine Calls.quiet_of_same (h1 _)))
  go_wp2_with fail
  go_ret
  exact ⟨congrArg (fun s => Ending.returned (Value.string s)) HE.out, ⟨_, rfl⟩⟩
set_option maxHeartbeats 8000000 in
theorem rop_18 (ad : Addr) (c : Nat) (z : Nat → Int) (b : Int) (b0 : 0 ≤ b) (b1 : b ≤ 65535) (hc : 2 ≤ c) (w : World) (R : IRow w .u8 (some ad) 2 z) : Calls Tryd.prog 37 #[.int .u8 18, .slice (some ad) 2 c, .int .u16 b] w fun e w' => e = .returned (.string (mkS (opdU 18 z b))) ∧ ∃ k, w' = w.drewN k := by
  obtain ⟨z00, z01⟩ := (R.bd 0 (by decide))
  obtain ⟨z10, z11⟩ := (R.bd 1 (by decide))
  have g1 := fun W => rword_any (z 0) (z 1) z00 z01 z10 z11 W
  have h1 := fun W => rh4_any (z 0 + 256 * z 1) (by omega) (by omega) W
  rw [W2_word (z 0) (z 1) z00 z01] at h1
  obtain ⟨S1, e1⟩ : ∃ S, mkS (N2 (z 0) (z 1)) = S := ⟨_, rfl⟩
  have s1 : S1.size = 5 := by rw [← e1, mkS_size', N2_len]
  rw [e1] at h1
  generalize z 0 + 256 * z 1 = v1 at g1 h1
  have hE : (⟨#[40]⟩ ++ S1 ++ ⟨#[44, 88, 41]⟩ : ByteArray) = mkS (opdU 18 z b) := by
    rw [← e1]
    show mkS [40] ++ mkS (N2 (z 0) (z 1)) ++ mkS [44, 88, 41] = _
    try simp only [mkS_cat]
    simp [opdU]
  have HE := Lib.hid hE
  have hc0 : w.cell? ad = some (.int .u8 (z 0)) := R.cellv 0 (by decide)
  have hc1 : w.cell? ⟨ad.block, ad.off + 1, none⟩ = some (.int .u8 (z 1)) := R.cellv 1 (by decide)
  clear hE R e1
  go_enter Tryd.func37, Tryd.ntmps37
  go_wp2_with fail
  go_quiet (first | (go_at_call_of 30 (Value.int .u8 (z 0)); refine Calls.quiet_of_same (g1 _)) | (go_at_call_of 52 (Value.int .u16 v1); refine Calls.quiet_of_same (h1 _)))
  go_wp2_with fail
  go_ret
  exact ⟨congrArg (fun s => Ending.returned (Value.string s)) HE.out, ⟨_, rfl⟩⟩
set_option maxHeartbeats 8000000 in
theorem rop_19 (ad : Addr) (c : Nat) (z : Nat → Int) (b : Int) (b0 : 0 ≤ b) (b1 : b ≤ 65535) (hc : 6 ≤ c) (w : World) (R : IRow w .u8 (some ad) 6 z) : Calls Tryd.prog 37 #[.int .u8 19, .slice (some ad) 6 c, .int .u16 b] w fun e w' => e = .returned (.string (mkS (opdU 19 z b))) ∧ ∃ k, w' = w.drewN k := by
  obtain ⟨z00, z01⟩ := (R.bd 0 (by decide))
  obtain ⟨z10, z11⟩ := (R.bd 1 (by decide))
  obtain ⟨z20, z21⟩ := (R.bd 2 (by decide))
  obtain ⟨z30, z31⟩ := (R.bd 3 (by decide))
  obtain ⟨z40, z41⟩ := (R.bd 4 (by decide))
  obtain ⟨z50, z51⟩ := (R.bd 5 (by decide))
  have g1 := fun W => rword_any (z 0) (z 1) z00 z01 z10 z11 W
  have h1 := fun W => rh4_any (z 0 + 256 * z 1) (by omega) (by omega) W
  rw [W2_word (z 0) (z 1) z00 z01] at h1
  obtain ⟨S1, e1⟩ : ∃ S, mkS (N2 (z 0) (z 1)) = S := ⟨_, rfl⟩
  have s1 : S1.size = 5 := by rw [← e1, mkS_size', N2_len]
  rw [e1] at h1
  generalize z 0 + 256 * z 1 = v1 at g1 h1
  have g2 := fun W => rword_any (z 2) (z 3) z20 z21 z30 z31 W
  have h2 := fun W => rh4_any (z 2 + 256 * z 3) (by omega) (by omega) W
  rw [W2_word (z 2) (z 3) z20 z21] at h2
  obtain ⟨S2, e2⟩ : ∃ S, mkS (N2 (z 2) (z 3)) = S := ⟨_, rfl⟩
  have s2 : S2.size = 5 := by rw [← e2, mkS_size', N2_len]
  rw [e2] at h2
  generalize z 2 + 256 * z 3 = v2 at g2 h2
  have g3 := fun W => rword_any (z 4) (z 5) z40 z41 z50 z51 W
  have h3 := fun W => rh4_any (z 4 + 256 * z 5) (by omega) (by omega) W
  rw [W2_word (z 4) (z 5) z40 z41] at h3
  obtain ⟨S3, e3⟩ : ∃ S, mkS (N2 (z 4) (z 5)) = S := ⟨_, rfl⟩
  have s3 : S3.size = 5 := by rw [← e3, mkS_size', N2_len]
  rw [e3] at h3
  generalize z 4 + 256 * z 5 = v3 at g3 h3
  have hE : (S1 ++ ⟨#[44]⟩ ++ S2 ++ ⟨#[44]⟩ ++ S3 : ByteArray) = mkS (opdU 19 z b) := by
    rw [← e1, ← e2, ← e3]
    show mkS (N2 (z 0) (z 1)) ++ mkS [44] ++ mkS (N2 (z 2) (z 3)) ++ mkS [44] ++ mkS (N2 (z 4) (z 5)) = _
    try simp only [mkS_cat]
    simp [opdU]
  have HE := Lib.hid hE
  have hc0 : w.cell? ad = some (.int .u8 (z 0)) := R.cellv 0 (by decide)
  have hc1 : w.cell? ⟨ad.block, ad.off + 1, none⟩ = some (.int .u8 (z 1)) := R.cellv 1 (by decide)
  have hc2 : w.cell? ⟨ad.block, ad.off + 2, none⟩ = some (.int .u8 (z 2)) := R.cellv 2 (by decide)
  have hc3 : w.cell? ⟨ad.block, ad.off + 3, none⟩ = some (.int .u8 (z 3)) := R.cellv 3 (by decide)
  have hc4 : w.cell? ⟨ad.block, ad.off + 4, none⟩ = some (.int .u8 (z 4)) := R.cellv 4 (by decide)
  have hc5 : w.cell? ⟨ad.block, ad.off + 5, none⟩ = some (.int .u8 (z 5)) := R.cellv 5 (by decide)
  clear hE R e1 e2 e3
  go_enter Tryd.func37, Tryd.ntmps37
  go_wp2_with fail
  go_quiet (first | (go_at_call_of 30 (Value.int .u8 (z 0)); refine Calls.quiet_of_same (g1 _)) | (go_at_call_of 52 (Value.int .u16 v1); refine Calls.quiet_of_same (h1 _)) | (go_at_call_of 30 (Value.int .u8 (z 2)); refine Calls.quiet_of_same (g2 _)) | (go_at_call_of 52 (Value.int .u16 v2); refine Calls.quiet_of_same (h2 _)) | (go_at_call_of 30 (Value.int .u8 (z 4)); refine Calls.quiet_of_same (g3 _)) | (go_at_call_of 52 (Value.int .u16 v3); refine Calls.quiet_of_same (h3 _)))
  go_wp2_with fail
  go_ret
  exact ⟨congrArg (fun s => Ending.returned (Value.string s)) HE.out, ⟨_, rfl⟩⟩
end Go.Proofs.YtdhnnegigjjoeaaDoor
