/-
  Opcode: Walk.
-/
import Derived.Test.YtleofglnlfpoeaaDoorOpc4
import Derived.Test.YtleofglnlfpoeaaDoorG28
import Derived.Test.YtleofglnlfpoeaaDoorG9
import Derived.Test.YtleofglnlfpoeaaDoorG7
namespace Go.Proofs.YtleofglnlfpoeaaDoor
open Go.RowKit
set_option linter.unusedVariables false
set_option linter.unusedSimpArgs false
set_option maxRecDepth 100000
/-- How many bytes an instruction has that begins with a byte. -/
def szN (b : Int) : Nat := (opZ b.toNat).toNat
theorem szN_eq (b : Int) : (szN b : Int) = opZ b.toNat := by
  have := bhP_bd (opM b.toNat : Int)
  unfold szN opZ
  omega
theorem szN_bd (b : Int) : 1 ≤ szN b ∧ szN b ≤ 7 := by
  have := bhP_bd (opM b.toNat : Int)
  unfold szN opZ
  omega
/-- Where the instructions begin. -/
def posN (z : Nat → Int) : Nat → Nat
  | 0 => 0
  | i + 1 => posN z i + szN (z (posN z i))
theorem posN_ge (z : Nat → Int) : ∀ i, i ≤ posN z i
  | 0 => Nat.zero_le _
  | i + 1 => by
    have := posN_ge z i
    have := (szN_bd (z (posN z i))).1
    show i + 1 ≤ posN z i + szN (z (posN z i))
    omega
def posV (z : Nat → Int) (m : Nat) : List Value := (List.range m).map fun i => .int .i64 (posN z i : Int)
theorem posV_len (z : Nat → Int) (m : Nat) : (posV z m).length = m := by simp [posV]
theorem posV_snoc (z : Nat → Int) (m : Nat) : posV z (m + 1) = posV z m ++ (#[.int .i64 (posN z m : Int)] : Array Value).toList := by simp [posV, List.range_succ]
def WalkR (z : Nat → Int) (n : Nat) (w : World) (e : Ending) (w' : World) : Prop :=
  ∃ v m, e = .returned (.tuple #[v, .int .i64 (posN z m : Int)]) ∧ w'.ownsRow w.heap.size 3 1 v m (posV z m) ∧ (∀ i, i < m → posN z i < n ∧ szN (z (posN z i)) ≤ n - posN z i) ∧ posN z m ≤ n ∧ ¬ (posN z m < n ∧ szN (z (posN z m)) ≤ n - posN z m) ∧ Below w.heap.size w w'
theorem int_inf : (Tryd.prog.info? 3).map (fun i => (i.zero, i.size, i.bytes)) = some (some (.int .i64 0), 1, 8) := by kernel_rfl
theorem op_field (S : ByteArray) (m k y : Int) (W : World) : (Instr.field 24 (.agg #[.string S, .int .u8 m, .int .i64 k, .int .i64 y]) 2).run Tryd.prog W = .ok (.int .i64 k) W := by kernel_rfl
set_option maxHeartbeats 8000000 in
theorem owalk_any (A : Option Addr) (n c : Nat) (z : Nat → Int) (hn : n ≤ 1099511627776) (w : World) (R : IRow w .u8 A n z) : Calls Tryd.prog 20 #[.slice A n c] w (WalkR z n w) := by
  have HR := Lib.hid R
  clear R
  unfold WalkR
  go_enter Tryd.func20, Tryd.ntmps20
  go_wp2
  go_loopw [4, 5] (fun v i wr => ∃ m : Nat, i = .int .i64 (posN z m : Int) ∧ posN z m ≤ n ∧ wr.ownsRow w.heap.size 3 1 v m (posV z m) ∧ (∀ i, i < m → posN z i < n ∧ szN (z (posN z i)) ≤ n - posN z i) ∧ Below w.heap.size w wr) (fun _ i _ => n - (intOf i).toNat)
  case atStart => exact ⟨0, rfl, Nat.zero_le _, World.ownsRow_nil _ _ _ _, fun i h => by omega, Below.refl _ w⟩
  case round =>
    obtain ⟨m, rfl, hpn, own, hall, hB⟩ := hrel
    have hS := hB.size
    have hpg := posN_ge z m
    have EP : posN z (m + 1) = posN z m + szN (z (posN z m)) := rfl
    have EV := Lib.hid (posV_snoc z m)
    have PL := Lib.hid (posV_len z m)
    obtain ⟨p, hp⟩ : ∃ p, posN z m = p := ⟨_, rfl⟩
    rw [hp] at EP EV hpn hpg ⊢
    have HP := Lib.hid hp
    have HEP := Lib.hid EP
    have HALL := Lib.hid hall
    clear hp EP hall
    by_cases hlt : p < n
    · obtain ⟨ad, rfl, hal, hc, hwf⟩ := HR.out p hlt
      obtain ⟨z0, z1⟩ := bounds_u8 hwf
      have hc2 : wr.cell? (ad.add p) = some (.int .u8 (z p)) := (hB.cell (by rw [block_of_add]; exact hal)).trans hc
      have hz1 := szN_eq (z p)
      have hz2 := szN_bd (z p)
      obtain ⟨b, hb⟩ : ∃ b : Nat, (z p) = (b : Int) := ⟨(z p).toNat, by omega⟩
      have hb256 : b < 256 := by omega
      have hOf := fun W => oof_any b hb256 W
      have hfl := fun (k : Int) (W : World) => op_field (mkS (opN b)) (opM b : Int) k (opY b : Int) W
      rw [← hb] at hOf
      rw [show (z p).toNat = b by omega] at hz1
      unfold opV at hOf
      rw [← hz1] at hOf
      obtain ⟨k, hk⟩ : ∃ k, szN (z p) = k := ⟨_, rfl⟩
      rw [hk] at hOf hz2 HEP
      have HK := Lib.hid hk
      have p0 : (0 : Int) ≤ p := by omega
      have p1 : (p : Int) < n := by omega
      have HOWN := Lib.hid own
      have HBr := Lib.hid hB
      clear hc hwf hb hz1 hk own hB
      go_wp2_with fail
      refine (hOf _).mono ?_
      rintro e w2 ⟨rfl, b2⟩
      have own2 := own_belowG HOWN.out b2
      have hB2 : Below w.heap.size w w2 := HBr.out.trans (b2.mono hS)
      have hS2 := hB2.size
      have k0 : IntKind.i64.wrap ((n : Int) - p) = n - p := IntWalk.i64_in _ (by omega)
      have k1 : IntKind.i64.wrap ((p : Int) + k) = p + k := IntWalk.i64_in _ (by omega)
      clear hOf b2 hc2
      by_cases hfit : k ≤ n - p
      · obtain ⟨v', w', hrun, own', gb⟩ := more_new (P := Tryd.prog) (t := 40) (e := 3) (ty := 40) (c := 1) (m := 1) Tryd.underlying40 int_inf rfl (by decide) own2 #[.int .i64 (p : Int)] rfl (fun x hx => by simp at hx; subst hx; rfl) rfl (by omega) (by omega) hS2
        have hB' : Below w.heap.size w w' := (hB2.alloc hS2 (.cells #[.int .i64 (p : Int)] 3)).grown gb (by simp; omega) (fun i h => (own2.lt i h).1)
        have OWN := Lib.hid own'
        have HB' := Lib.hid hB'
        have h1 : ¬ (n : Int) - p < k := by omega
        clear own2 hB2 own' gb hB'
        go_wp2_with (at_builtin; refine wpList_append_run rfl (.tmp 23) (.tmp 25) 40 rfl rfl rfl hrun ?_)
        go_roundw
        case rel => exact ⟨m + 1, by rw [HEP.out]; go_num, by rw [HEP.out]; omega, by rw [EV.out]; exact OWN.out, fun i hi => (Nat.lt_succ_iff_lt_or_eq.1 hi).elim (HALL.out i) fun e => by subst e; rw [HP.out, HK.out]; exact ⟨hlt, hfit⟩, HB'.out⟩
        case measure => simp [intOf]; omega
      · have h1 : (n : Int) - p < k := by omega
        have OWN := Lib.hid own2
        have HB2 := Lib.hid hB2
        clear own2 hB2
        go_wp2
        go_ret2
        refine ⟨_, m, ?_, OWN.out, HALL.out, by rw [HP.out]; omega, by rw [HP.out, HK.out]; omega, HB2.out⟩
        rw [HP.out]
        rfl
    · have h1 : ¬ (p : Int) < n := by omega
      have OWN := Lib.hid own
      have HB2 := Lib.hid hB
      clear own hB
      go_wp2
      go_ret2
      refine ⟨_, m, ?_, OWN.out, HALL.out, by rw [HP.out]; omega, by rw [HP.out]; omega, HB2.out⟩
      rw [HP.out]
      rfl
end Go.Proofs.YtleofglnlfpoeaaDoor
