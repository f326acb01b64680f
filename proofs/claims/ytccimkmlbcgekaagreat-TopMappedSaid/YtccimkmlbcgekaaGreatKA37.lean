/-
  Texts of these proofs, one behind the other: Bus11, G15, Fk4.
-/
import Derived.Test.YtccimkmlbcgekaaGreatKA36
import Derived.Test.YtccimkmlbcgekaaGreatKA12
import Derived.Test.YtccimkmlbcgekaaGreatKA14
namespace Go.Proofs.YtccimkmlbcgekaaGreat
open Go.RowKit
set_option linter.unusedVariables false
set_option linter.unusedSimpArgs false
set_option maxRecDepth 100000
def acc0 : Acc := ⟨0, 0, 0, false, 0⟩
def bstI (l : List Acc) (j : Nat) : Int := (l.getD j acc0).st
def badI (l : List Acc) (j : Nat) : Int := (l.getD j acc0).ad
theorem accF_0 (l : List Acc) (j : Nat) : accF l j 0 = .int .i64 (bstI l j) := rfl
theorem accF_1 (l : List Acc) (j : Nat) : accF l j 1 = .int .u32 (badI l j) := rfl
theorem getD_old (l : List Acc) (a : Acc) (j : Nat) (h : j < l.length) : (l ++ [a]).getD j acc0 = l.getD j acc0 := by
  rw [List.getD_eq_getElem?_getD, List.getD_eq_getElem?_getD, List.getElem?_append_left h]
theorem getD_new (l : List Acc) (a : Acc) : (l ++ [a]).getD l.length acc0 = a := by
  rw [List.getD_eq_getElem?_getD, List.getElem?_append_right (Nat.le_refl _), Nat.sub_self]; rfl
def dOK (x : Int) : Prop := x = 3 ∨ x = 6 ∨ x = 12 ∨ x = 24
theorem lenI_ok (f x : Bool) : dOK (lenI f x) := by cases f <;> cases x <;> simp [dOK, lenI]
structure SG (l : List Acc) (now : Int) : Prop where
  b : ∀ j, j < l.length → 0 ≤ badI l j ∧ badI l j < 2097152 ∧ bstI l j ≤ 24 * (j : Int) ∧ 0 ≤ bstI l j
  d : ∀ j, j + 1 < l.length → dOK (bstI l (j + 1) - bstI l j)
  z : 0 < l.length → bstI l 0 = 0
  e : l.length = 0 → now = 0
  la : ∀ j, j + 1 = l.length → dOK (now - bstI l j)
  n : now ≤ 24 * (l.length : Int)
  p : 0 ≤ now
theorem SG.nil : SG [] 0 := ⟨fun j h => absurd h (by simp), fun j h => absurd h (by simp), fun h => absurd h (by simp), fun _ => rfl, fun j h => absurd h (by simp), Int.le_refl 0, Int.le_refl 0⟩
theorem SG.snoc {l : List Acc} {now m : Int} (h : SG l now) (a : Acc) (ha : a.st = now) (a0 : 0 ≤ a.ad) (a1 : a.ad < 2097152) (hm : dOK (m - now)) : SG (l ++ [a]) m := by
  have hl : (l ++ [a]).length = l.length + 1 := by simp
  have old : ∀ j, j < l.length → bstI (l ++ [a]) j = bstI l j ∧ badI (l ++ [a]) j = badI l j := fun j hj => by unfold bstI badI; rw [getD_old l a j hj]; exact ⟨rfl, rfl⟩
  have new : bstI (l ++ [a]) l.length = now ∧ badI (l ++ [a]) l.length = a.ad := by unfold bstI badI; rw [getD_new]; exact ⟨ha, rfl⟩
  have hmb : now + 3 ≤ m ∧ m ≤ now + 24 := by unfold dOK at hm; omega
  have hn := h.n
  have hp := h.p
  refine ⟨fun j hj => ?_, fun j hj => ?_, fun _ => ?_, fun h0 => ?_, fun j hj => ?_, ?_, by omega⟩
  · rcases (by omega : j < l.length ∨ j = l.length) with h1 | rfl
    · rw [(old j h1).1, (old j h1).2]; exact h.b j h1
    · rw [new.1, new.2]; exact ⟨a0, a1, hn, hp⟩
  · rcases (by omega : j + 1 < l.length ∨ j + 1 = l.length) with h1 | h1
    · rw [(old (j + 1) h1).1, (old j (by omega)).1]; exact h.d j h1
    · have h2 := h.la j h1
      rw [h1, new.1, (old j (by omega)).1]; exact h2
  · rcases Nat.eq_zero_or_pos l.length with h1 | h1
    · have h2 := new.1
      rw [h1] at h2
      rw [h2]; exact h.e h1
    · rw [(old 0 h1).1]; exact h.z h1
  · omega
  · obtain rfl : j = l.length := by omega
    rw [new.1]; exact hm
  · rw [hl]; omega
/-- What stays so, c accesses having been asked for. -/
structure SI (bu : Int) (s : Bs) (c : Nat) : Prop where
  left : s.left = bu - s.tl.length
  cnt : (s.tl.length : Int) = if bu < (c : Int) then bu else (c : Int)
  sg : SG s.tl s.now
  tidy : s.tidy
  pos : 0 ≤ s.left
section
variable {w : World} {g : Nat} {d : Hd} {Q : Bp} {s : Bs} {bu : Int} {c k : Nat}
theorem SI.over (h : SI bu s c) (h0 : s.left = 0) : SI bu { s with over := true } (c + 1) := by
  obtain ⟨h1, h2, h3, h4, h5⟩ := h
  refine ⟨h1, ?_, h3, h4, h5⟩
  show (s.tl.length : Int) = _
  split at h2 <;> split <;> omega
theorem SI.more (h : SI bu s c) (h0 : 0 < s.left) {s' : Bs} (a : Acc) (ht : s'.tl = s.tl ++ [a]) (hl : s'.left = s.left - 1) (ha : a.st = s.now) (a0 : 0 ≤ a.ad) (a1 : a.ad < 2097152) (hn : dOK (s'.now - s.now)) (hy : s'.tidy) : SI bu s' (c + 1) := by
  obtain ⟨h1, h2, h3, h4, h5⟩ := h
  have hlen : s'.tl.length = s.tl.length + 1 := by rw [ht]; simp
  refine ⟨by rw [hl, h1, hlen]; omega, ?_, by rw [ht]; exact h3.snoc a ha a0 a1 hn, hy, by omega⟩
  rw [hlen]
  split at h2 <;> split <;> omega
theorem SI.rd (h : SI bu s c) (h0 : 0 < s.left) (a kd : Int) : SI bu (s.rdS d a kd) (c + 1) := by
  obtain ⟨e1, e2, e3, e4, e5, e6, _⟩ := anS_eq (s.beg d a) d a
  refine h.more h0 _ rfl rdS_f.2 rfl (by show 0 ≤ a % 2097152; omega) (by show a % 2097152 < 2097152; omega) ?_ ?_
  · show dOK (((s.beg d a).anS d a).now - s.now)
    rw [e1]
    show dOK (s.now + lenI s.fast (extraB a) - s.now)
    rw [show s.now + lenI s.fast (extraB a) - s.now = lenI s.fast (extraB a) by omega]
    exact lenI_ok _ _
  · show ((s.beg d a).anS d a).asked = false → ((s.beg d a).anS d a).next = false
    rw [e4, e5]; exact h.tidy
theorem SI.wr (h : SI bu s c) (h0 : 0 < s.left) (a v kd : Int) : SI bu (s.wrS d a v kd) (c + 1) := by
  obtain ⟨e1, e2, e3, e4, e5, e6, _⟩ := chS_eq (s.beg d a) a v
  refine h.more h0 _ rfl wrS_left rfl (by show 0 ≤ a % 2097152; omega) (by show a % 2097152 < 2097152; omega) ?_ ?_
  · show dOK (((s.beg d a).chS a v).now - s.now)
    rw [e1]
    show dOK (s.now + lenI s.fast (extraB a) - s.now)
    rw [show s.now + lenI s.fast (extraB a) - s.now = lenI s.fast (extraB a) by omega]
    exact lenI_ok _ _
  · show ((s.beg d a).chS a v).asked = false → ((s.beg d a).chS a v).next = false
    rw [e4, e5]; exact h.tidy
theorem SI.ask (h : SI bu s c) (x : Bool) : SI bu { s with asked := true, next := x } c := ⟨h.left, h.cnt, h.sg, (fun h1 => nomatch h1), h.pos⟩
theorem tn_eq (s : Bs) : s.tn.tl = s.tl ∧ s.tn.left = s.left ∧ s.tn.now = s.now ∧ s.tn.cyc = s.cyc ∧ s.tn.x = s.x := by unfold Bs.tn; split <;> exact ⟨rfl, rfl, rfl, rfl, rfl⟩
theorem SI.turn (h : SI bu s c) : SI bu s.tn c := by
  obtain ⟨e1, e2, e3, _⟩ := tn_eq s
  refine ⟨by rw [e1, e2]; exact h.left, by rw [e1]; exact h.cnt, by rw [e1, e3]; exact h.sg, ?_, by rw [e2]; exact h.pos⟩
  unfold Bs.tn
  split
  · exact fun _ => rfl
  · exact h.tidy
theorem room_tn (h : s.room k) : s.tn.room k := by
  obtain ⟨e1, e2, e3, e4, e5⟩ := tn_eq s
  unfold Bs.room
  rw [e1, e3, e4, e5]; exact h
/-- What an access leaves, whatever is left. -/
def AccR (bu : Int) (c k : Nat) (g : Nat) (d : Hd) (Q : Bp) (w : World) (e : Ending) (w' : World) : Prop := ∃ s', BuR (.tuple #[]) g d Q s' w (.returned (.tuple #[])) w' ∧ SI bu s' (c + 1) ∧ s'.room (k + 1)
theorem bread_SI (h : BU w g d Q s) (hs : SI bu s c) (hr : s.room k) (hk : k ≤ 1000) (a kd : Int) (a0 : 0 ≤ a) (a1 : a ≤ 4294967295) :
    Calls Tryz.prog 20 #[.pointer (some ⟨g, 0, none⟩), .int .u32 a, .int .u8 kd] w fun e w' => ∃ v, e = .returned (.int .u8 v) ∧ AccR bu c k g d Q w e w' := by
  rcases (by have := hs.pos; omega : s.left = 0 ∨ 0 < s.left) with h0 | h0
  · refine (bread_none h a kd h0).mono ?_
    intro e w' r
    have he : e = .returned (.int .u8 255) := by obtain ⟨_, e1, _⟩ := r; exact e1
    subst he
    exact ⟨_, rfl, _, BuR.ret r, hs.over h0, room_mono (s := { s with over := true }) hr (by omega)⟩
  · refine (bread_some h a kd a0 a1 h0 (by have := hr.1; omega) (by have := hr.2.1; omega) (Hp.lim_mono hr.2.2.1 (by omega)) (by have := hr.2.2.2; omega)).mono ?_
    intro e w' r
    have he : e = .returned (.int .u8 (s.rdV d a)) := by obtain ⟨_, e1, _⟩ := r; exact e1
    subst he
    exact ⟨_, rfl, _, BuR.ret r, hs.rd h0 a kd, rdS_room hr⟩
theorem bwrite_SI (h : BU w g d Q s) (hs : SI bu s c) (hr : s.room k) (hk : k ≤ 1000) (a v kd : Int) (a0 : 0 ≤ a) (a1 : a ≤ 4294967295) (v0 : 0 ≤ v) (v1 : v ≤ 255) :
    Calls Tryz.prog 21 #[.pointer (some ⟨g, 0, none⟩), .int .u32 a, .int .u8 v, .int .u8 kd] w fun e w' => e = .returned (.tuple #[]) ∧ AccR bu c k g d Q w e w' := by
  rcases (by have := hs.pos; omega : s.left = 0 ∨ 0 < s.left) with h0 | h0
  · refine (bwrite_none h a v kd h0).mono ?_
    intro e w' r
    have he : e = .returned (.tuple #[]) := by obtain ⟨_, e1, _⟩ := r; exact e1
    subst he
    exact ⟨rfl, _, r, hs.over h0, room_mono (s := { s with over := true }) hr (by omega)⟩
  · refine (bwrite_some h a v kd a0 a1 v0 v1 h0 (by have := hr.1; omega) (by have := hr.2.1; omega) (Hp.lim_mono hr.2.2.1 (by omega)) (by have := hr.2.2.2; omega)).mono ?_
    intro e w' r
    have he : e = .returned (.tuple #[]) := by obtain ⟨_, e1, _⟩ := r; exact e1
    subst he
    exact ⟨rfl, _, r, hs.wr h0 a v kd, wrS_room hr⟩
end
end Go.Proofs.YtccimkmlbcgekaaGreat
namespace Go.Proofs.YtccimkmlbcgekaaGreat
open Go.ChangeShapes Go.WideShapes Go.ChangeAt Go.RowKit
section
variable {H : Type} {enc : TypeId × Value → H} {P : Program} {w : World} {base : Nat} {r : Reach} {b0 : Nat} {t e : TypeId} {v : Value} {d : DataW H} {ps : List MemPlace}
theorem slice_ints_sized2 {k : IntKind} (ht : P.underlying t = some (.slice e)) (he : P.underlying e = some (.int k)) (hc : P.cellsOf e = 1) (hval : Value.okWide P w r b0 t v) (hd : DataW.Trod enc P w base (fun _ => true) true t v d ps) :
    ∃ A n cap zs, v = .slice A n cap ∧ n ≤ cap ∧ cap ≤ maxLen ∧ IRow w k A n zs ∧ ((∃ E S, d = .slice E S ∧ E.length + S.length = cap) ∨ cap = 0) ∧ (A = none → n = 0 ∧ cap = 0) := by
  obtain ⟨a0, len, cap, rfl⟩ := okWide_slice ht hval
  obtain ⟨fuel, hf⟩ := hd
  rcases open_ints ht he hc hf with ⟨hcs, _⟩ | ⟨a, len', cap', zs, hcs, _, hl, hm, hz, hx, hcell, hwz⟩
  · simp only [Value.cells, List.cons.injEq, Value.slice.injEq, and_true] at hcs
    obtain ⟨rfl, rfl, rfl⟩ := hcs
    exact ⟨none, 0, 0, fun _ => 0, rfl, Nat.le_refl _, by unfold maxLen; omega, fun i hi => absurd hi (by omega), Or.inr rfl, fun _ => ⟨rfl, rfl⟩⟩
  · simp only [Value.cells, List.cons.injEq, Value.slice.injEq, and_true] at hcs
    obtain ⟨rfl, rfl, rfl⟩ := hcs
    simp only [if_true] at hz
    simp only [Prod.mk.injEq] at hx
    refine ⟨some a, len, cap, fun i => zs.getD i 0, rfl, hl, hm, fun i hi => ⟨a, rfl, ?_, hcell i (by omega), ?_⟩, Or.inl ⟨_, _, hx.1, ?_⟩, fun x => by cases x⟩
    · have := cell_lt (hcell i (by omega)); rwa [block_of_add] at this
    · have hi' : i < zs.length := by omega
      exact hwz _ (by simp [List.getD, List.getElem?_eq_getElem hi'])
    · simp [lits]; omega
end
end Go.Proofs.YtccimkmlbcgekaaGreat
namespace Go.Proofs.YtccimkmlbcgekaaGreat
open Go.RowKit
set_option linter.unusedVariables false
theorem fkCells4 {w : World} {A : Option Addr} {n : Nat} {qs : Nat → Nat → Value} (Q : FRow w 4 A n qs) (k : Nat) (hk : k < n) : ∃ ad : Addr, A = some ad ∧ ad.block < w.heap.size ∧ w.cell? (ad.add (k * 4)) = some (qs k 0) ∧
    w.cell? ⟨(ad.add (k * 4)).block, (ad.add (k * 4)).off + 1, none⟩ = some (qs k 1) ∧ w.cell? ⟨(ad.add (k * 4)).block, (ad.add (k * 4)).off + 2, none⟩ = some (qs k 2) ∧ w.cell? ⟨(ad.add (k * 4)).block, (ad.add (k * 4)).off + 3, none⟩ = some (qs k 3) := by
  obtain ⟨ad, e, hl, hc⟩ := Q k hk
  refine ⟨ad, e, hl, hc 0 (by decide), ?_, ?_, ?_⟩
  · have h := hc 1 (by decide)
    rw [← add_of_add] at h; exact h
  · have h := hc 2 (by decide)
    rw [← add_of_add] at h; exact h
  · have h := hc 3 (by decide)
    rw [← add_of_add] at h; exact h
end Go.Proofs.YtccimkmlbcgekaaGreat
