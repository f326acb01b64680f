/-
  Texts of these proofs, one behind the other: St0, G28, Ent6.
-/
import Derived.Test.YtngfmofjonleeaaGreatRows
import Derived.Test.YtngfmofjonleeaaGreatKEA11
import Derived.Test.YtngfmofjonleeaaGreatKEA05
import Derived.OrdersIn
import Derived.RangeFuncBox
import Derived.OwnWalkIn
namespace Go.Proofs.YtngfmofjonleeaaGreat
open Go.RowKit
set_option linter.unusedVariables false
set_option linter.unusedSimpArgs false
set_option maxRecDepth 100000
/-- What a register may be at most. -/
def mostP (i : Nat) : Int := if i = 5 then 65535 else if i = 15 then 1 else 255
def StOk (r : Nat → Int) : Prop := ∀ i, i < 16 → 0 ≤ r i ∧ r i ≤ mostP i
def stA (r : Nat → Int) : Array Value := #[.int .u8 (r 0), .int .u8 (r 1), .int .u8 (r 2), .int .u8 (r 3), .int .u8 (r 4), .int .u16 (r 5), .int .u8 (r 6), .int .u8 (r 7), .int .u8 (r 8), .int .u8 (r 9), .int .u8 (r 10), .int .u8 (r 11), .int .u8 (r 12), .int .u8 (r 13), .int .u8 (r 14), .bool (decide (r 15 = 1))]
theorem stA_size (r : Nat → Int) : (stA r).size = 16 := rfl
theorem stA_one (r : Nat → Int) : ∀ v ∈ (stA r).toList, v.oneCell' = true := by
  intro v hv
  simp only [stA, List.mem_cons, List.not_mem_nil, or_false] at hv
  rcases hv with rfl | rfl | rfl | rfl | rfl | rfl | rfl | rfl | rfl | rfl | rfl | rfl | rfl | rfl | rfl | rfl <;> rfl
theorem size_state : (Tryz.prog.info? 25).map (·.size) = some 16 := by kernel_rfl
end Go.Proofs.YtngfmofjonleeaaGreat
namespace Go.Proofs.YtngfmofjonleeaaGreat
open Go Go.RowKit
set_option linter.unusedVariables false
theorem own_belowG {W W' : World} {base size n : Nat} {e : TypeId} {v : Value} {xs : List Value} (h : W.ownsRow base e size v n xs) (hb : Below W.heap.size W W') : W'.ownsRow base e size v n xs := by
  refine ⟨h.1, ?_⟩
  rcases h.2 with hn | ⟨g, cap, cur, rfl, hg, hgg, rest⟩
  · exact .inl hn
  · exact .inr ⟨g, cap, cur, rfl, hg, (hb.block g (Array.getElem?_eq_some_iff.1 hgg).1).trans hgg, rest⟩
theorem blk_not_row {W : World} {B : Nat} {t e : TypeId} {cs : Array Value} (h : Blk W B t cs) (hte : t ≠ e) {base size k : Nat} {v : Value} {xs : List Value} (hr : W.ownsRow base e size v k xs) : some B ≠ v.ownBlock := by
  rcases hr.2 with ⟨rfl, _⟩ | ⟨g, cap, cur, rfl, _, hgb, _⟩
  · simp [Value.ownBlock]
  · intro e'
    obtain rfl : B = g := by simpa [Value.ownBlock] using e'
    have := (show W.heap[B]? = _ from h).symm.trans hgb
    simp at this
    exact hte this.2
end Go.Proofs.YtngfmofjonleeaaGreat
namespace Go.Proofs.YtngfmofjonleeaaGreat
open Go.RowKit
set_option linter.unusedVariables false
set_option linter.unusedSimpArgs false
set_option maxRecDepth 100000
/-- An access that is asked for: its kind, where, whether it writes, and what. -/
structure Sp where
  kd : Int
  ad : Int
  wr : Bool
  dt : Int
def spC (p : Sp) : List Value := [.int .u8 p.kd, .int .u16 p.ad, .bool p.wr, .int .u8 p.dt]
def spL (l : List Sp) : List Value := l.flatMap spC
theorem spL_len (l : List Sp) : (spL l).length = 4 * l.length := by
  induction l with
  | nil => rfl
  | cons a l ih => simp only [spL, List.flatMap_cons, List.length_append] at ih ⊢; rw [ih]; simp [spC]; omega
theorem spL_app (a b : List Sp) : spL (a ++ b) = spL a ++ spL b := by simp [spL]
theorem spL_one (l : List Sp) : ∀ v ∈ spL l, v.oneCell' = true := by
  intro v hv
  simp only [spL, List.mem_flatMap] at hv
  obtain ⟨p, _, hv⟩ := hv
  simp only [spC, List.mem_cons, List.not_mem_nil, or_false] at hv
  rcases hv with rfl | rfl | rfl | rfl <;> rfl
/-- Accesses behind a row of the call's own. -/
theorem more_sp {P : Program} {t e ty : TypeId} {w : World} {base n m c : Nat} {v : Value} {xs : List Value} (ht : P.underlying t = some (.slice e))
    (hinfo : (P.info? e).map (fun i => (i.zero, i.size, i.bytes)) = some (some (.agg #[.int .u8 0, .int .u16 0, .bool false, .int .u8 0]), 4, 6)) (hown : w.ownsRow base e 4 v n xs) (l : List Sp) (cells : Array Value) (hc : cells = (spL l).toArray) (hm : m = l.length)
    (hn : n + m ≤ 1000000) (hb : base ≤ w.heap.size) :
    ∃ v' w', (Builtin.append_ #[t, t] ty #[v, .slice (some ⟨w.heap.size, 0, none⟩) m c]).run P (w.alloc (.cells cells e)) = .ok v' w' ∧ w'.ownsRow base e 4 v' (n + m) (xs ++ spL l) ∧ (w.alloc (.cells cells e)).grownBy w' v.ownBlock := by
  subst hc hm
  obtain ⟨v', w', h1, h2, h3⟩ := more_new (P := P) (c := c) (ty := ty) (m := l.length) ht hinfo rfl (by decide) hown (spL l).toArray (by simp [spL_len]; omega) (by simpa using spL_one l) rfl (by omega) (by omega) hb
  exact ⟨v', w', h1, by simpa using h2, h3⟩
/-- Where a kind's word is. -/
def goAt (k : Nat) : Int := 65536 - 2 * (k : Int)
def plP (k : Nat) (s d : Int) : Sp := if k = 1 then ⟨2, 8448 + s, false, 0⟩ else ⟨5, 8448 + s, true, d⟩
def plAe (k : Nat) (r : Nat → Int) (i : Nat) (d : Int) : Sp := plP k ((r 3 - i) % 256) d
/-- The plan of an entry, d2 being the flags that are pushed. -/
def plL (k : Nat) (r : Nat → Int) (d2 : Int) : List Sp :=
  [⟨2, r 5, false, 0⟩, ⟨2, r 5, false, 0⟩, plAe k r 0 (r 5 / 256), plAe k r 1 (r 5 % 256), plAe k r 2 d2, ⟨7, goAt k, false, 0⟩, ⟨7, goAt k + 1, false, 0⟩, ⟨2, r 5, false, 0⟩]
end Go.Proofs.YtngfmofjonleeaaGreat
