/-
  Texts of these proofs, one behind the other: Ent16, Ent17, Ent18.
-/
import Derived.Test.YtngfmofjonleeaaGreatKEA39
import Derived.Test.YtngfmofjonleeaaGreatKEA47
import Derived.Test.YtngfmofjonleeaaGreatKEA49
import Derived.OpenShut
import Derived.Test.YtngfmofjonleeaaGreatKEA03
import Derived.Deep.Cut
import Derived.Test.YtngfmofjonleeaaGreatKEA48
import Derived.Test.YtngfmofjonleeaaGreatKEA02
namespace Go.Proofs.YtngfmofjonleeaaGreat
open Go.RowKit
set_option linter.unusedVariables false
set_option linter.unusedSimpArgs false
set_option maxRecDepth 100000
theorem phI_bd {r : Nat → Int} (hr : StOk r) (a : Int) (a0 : 0 ≤ a) (a1 : a ≤ 65535) : 0 ≤ phI (pgF r) a ∧ phI (pgF r) a ≤ 4294967295 := by
  have := pgF_bd hr (a.toNat / 8192) (by omega)
  unfold phI
  omega
/-- How a bus is behind an access, and what the access answers. -/
def acS (d : Hd) (r : Nat → Int) (s : Bs) (p : Sp) : Bs := if p.wr then s.wrS1 d (phI (pgF r) p.ad) p.dt p.kd else s.rdS1 d (phI (pgF r) p.ad) p.kd
def acV (d : Hd) (r : Nat → Int) (s : Bs) (p : Sp) : Int := if p.wr then 0 else s.rdV1 d (phI (pgF r) p.ad)
theorem fit_ac {d : Hd} {r : Nat → Int} {s : Bs} {k : Nat} (h : s.fit k) (p : Sp) : (acS d r s p).fit (k + 1) := by
  unfold acS
  split
  · exact fit_wr h _ _ _
  · exact fit_rd h _ _
structure Sp.ok (p : Sp) : Prop where
  a0 : 0 ≤ p.ad
  a1 : p.ad ≤ 65535
  d0 : 0 ≤ p.dt
  d1 : p.dt ≤ 255
section
variable {w w' : World} {g : Nat} {d : Hd} {P : Bp} {s : Bs} {k : Nat} {r : Nat → Int}
theorem BuR.early {v : Value} {e : Ending} {w2 : World} (hb : Below w.heap.size w w2) (h : BuR v g d P s w2 e w') : BuR v g d P s w e w' := by
  obtain ⟨Q', rfl, h1, k1, fr, e1⟩ := h
  refine ⟨Q', rfl, h1, (Kp.of_below hb).trans k1 (fun x hx => .inl hx), fun y hy => ?_, e1⟩
  rcases fr y hy with h2 | h2
  · exact .inl h2
  · exact .inr (Nat.le_trans hb.size h2)
/-- One access on the program's bus. -/
theorem eacc_bu (h : BU w g d P s) (hr : StOk r) (hm : s.room k) (hk : k ≤ 100000) (p : Sp) (hp : p.ok) :
    Calls Tryz.prog 9 #[.pointer (some ⟨g, 0, none⟩), .agg (stA r), .agg (acA p.kd p.ad p.wr p.dt)] w (BuR (.int .u8 (acV d r s p)) g d P (acS d r s p) w) := by
  obtain ⟨b0, b1⟩ := phI_bd hr p.ad hp.a0 hp.a1
  refine (eaccess_any r hr p.kd p.ad p.wr p.dt hp.a0 hp.a1 w (some ⟨g, 0, none⟩) (fun w2 x w' => x = .int .u8 (acV d r s p) ∧ BuR (.int .u8 (acV d r s p)) g d P (acS d r s p) w2 (.returned x) w') (fun hb w2 h2 => ?_) (fun hb w2 h2 => ?_)).mono ?_
  · have e1 : acS d r s p = s.wrS1 d (phI (pgF r) p.ad) p.dt p.kd := by unfold acS; rw [if_pos hb]
    have e2 : acV d r s p = 0 := by unfold acV; rw [if_pos hb]
    rw [e1, e2]
    refine (bwrite1 (h.keep h2) hm hk (phI (pgF r) p.ad) p.dt p.kd b0 b1 hp.d0 hp.d1).mono ?_
    rintro e w3 ⟨Q', rfl, rest⟩
    exact ⟨rfl, rfl, Q', rfl, rest⟩
  · have e1 : acS d r s p = s.rdS1 d (phI (pgF r) p.ad) p.kd := by unfold acS; rw [if_neg (by simp [hb])]
    have e2 : acV d r s p = s.rdV1 d (phI (pgF r) p.ad) := by unfold acV; rw [if_neg (by simp [hb])]
    rw [e1, e2]
    refine (bread1 (h.keep h2) hm hk (phI (pgF r) p.ad) p.kd b0 b1).mono ?_
    rintro e w3 ⟨Q', rfl, rest⟩
    exact ⟨_, rfl, rfl, Q', rfl, rest⟩
  · rintro e w3 ⟨x, w2, rfl, hb, rfl, hR⟩
    exact hR.early hb
end
end Go.Proofs.YtngfmofjonleeaaGreat
namespace Go.Proofs.YtngfmofjonleeaaGreat
open Go.RowKit Go.Shelf
set_option linter.unusedVariables false
set_option linter.unusedSimpArgs false
set_option maxRecDepth 100000
attribute [local go_sem] Oper.semAt_some
section
variable {w w' : World} {g : Nat} {d : Hd} {P : Bp} {s : Bs}
end
end Go.Proofs.YtngfmofjonleeaaGreat
namespace Go.Proofs.YtngfmofjonleeaaGreat
open Go.RowKit Go.Shelf
set_option linter.unusedVariables false
set_option linter.unusedSimpArgs false
set_option maxRecDepth 100000
attribute [local go_sem] Oper.semAt_some
section
variable {W w w' : World} {g : Nat} {d : Hd} {Q : Rbp} {s : Bs} {nx : Bool}
end
end Go.Proofs.YtngfmofjonleeaaGreat
