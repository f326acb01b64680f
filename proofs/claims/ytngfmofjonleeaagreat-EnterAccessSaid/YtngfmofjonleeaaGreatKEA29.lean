/-
  Texts of these proofs, one behind the other: Bus2, Bus3.
-/
import Derived.Test.YtngfmofjonleeaaGreatKEA08
import Derived.Test.YtngfmofjonleeaaGreatKEA23
import Derived.Test.YtngfmofjonleeaaGreatKEA28
import Derived.Test.YtngfmofjonleeaaGreatKEA12
namespace Go.Proofs.YtngfmofjonleeaaGreat
open Go.RowKit
set_option linter.unusedVariables false
set_option linter.unusedSimpArgs false
set_option maxRecDepth 100000
/-- Neither bytes nor edges lie in this block. -/
def NB (w : World) (y : Nat) : Prop := ∀ t cs, Blk w y t cs → 5 ≠ t ∧ 150 ≠ t
theorem NB.of {w : World} {y : Nat} {t : TypeId} {cs : Array Value} (h : Blk w y t cs) (h1 : 5 ≠ t) (h2 : 150 ≠ t) : NB w y := fun t' cs' h' => by
  by_cases e : t = t'
  · subst e; exact ⟨h1, h2⟩
  · exact absurd rfl (h.ne_ h' e)
theorem NB.map {w : World} {y : Nat} {es : Array MapEntry} {k : Nat} (h : w.heap[y]? = some (.map es k)) : NB w y := fun t cs h' => by
  have h2 : w.heap[y]? = some (Obj.cells cs t (0, 0)) := h'
  rw [h] at h2; cases h2
/-- No edges lie in this block, and bytes only if it is younger than those of M. -/
def NBx (w : World) (M : List Nat) (y : Nat) : Prop := (∀ t cs, Blk w y t cs → 150 ≠ t) ∧ ((∀ t cs, Blk w y t cs → 5 ≠ t) ∨ ∀ u ∈ M, u ≤ y)
theorem NB.x {w : World} {M : List Nat} {y : Nat} (h : NB w y) : NBx w M y := ⟨fun t cs hb => (h t cs hb).2, .inl fun t cs hb => (h t cs hb).1⟩
theorem NBx.of8 {w : World} {M : List Nat} {y : Nat} {cs : Array Value} (h : Blk w y 5 cs) (hM : ∀ u ∈ M, u ≤ y) : NBx w M y := ⟨fun t' cs' h' => by
  by_cases e : 5 = t'
  · rw [← e]; decide
  · exact absurd rfl (h.ne_ h' e), .inr hM⟩
theorem SliceB.kpx {w w' : World} {cb : Nat} {v : Value} {n : Nat} {z : Nat → Int} {L M : List Nat} (h : SliceB w cb v n z) (k : Kp L w w') (hL : ∀ y ∈ L, NBx w M y) (hM : cb ∈ M) : SliceB w' cb v n z := by
  obtain ⟨A, cap, e, h1, h2, h3, h4, h5, h6⟩ := h
  have off : ∀ ad, A = some ad → ad.block ∉ L := fun ad x hx => by
    obtain ⟨C, hC⟩ := h4 ad x
    rcases (hL _ hx).2 with h8 | h8
    · exact h8 _ _ hC rfl
    · have := h8 cb hM
      have := h6 ad x
      omega
  exact ⟨A, cap, e, h1, h2, h3.kp k off, h4.kp k off, h5, h6⟩
theorem SliceB.kpN {w w' : World} {cb : Nat} {v : Value} {n : Nat} {z : Nat → Int} {L : List Nat} (h : SliceB w cb v n z) (k : Kp L w w') (hL : ∀ y ∈ L, NB w y) : SliceB w' cb v n z :=
  h.kpx (M := [cb]) k (fun y hy => (hL y hy).x) (by simp)
theorem SliceB.mono {w : World} {cb cb' : Nat} {v : Value} {n : Nat} {z : Nat → Int} (h : SliceB w cb v n z) (hc : cb ≤ cb') : SliceB w cb' v n z := by
  obtain ⟨A, cap, e, h1, h2, h3, h4, h5, h6⟩ := h
  exact ⟨A, cap, e, h1, h2, h3, h4, h5, fun ad x => Nat.lt_of_lt_of_le (h6 ad x) hc⟩
theorem HP.kpx {w w' : World} {g : Nat} {d : Hd} {b : Hb} {x : Hp} {L M : List Nat} (h : HP w g d b x) (k : Kp L w w') (hL : ∀ y ∈ L, NBx w M y) (hM : b.v ∈ M ∧ b.c ∈ M ∧ b.p ∈ M) (hn : g ∉ L ∧ b.v ∉ L ∧ b.c ∉ L ∧ b.p ∉ L) : HP w' g d b x := by
  obtain ⟨A, c, hb, ho⟩ := h
  have hbox : ∀ {cb n : Nat} {z : Nat → Int}, Box w cb n z → cb ∈ M → cb ∉ L → Box w' cb n z := fun hbx h1 h2 => by
    obtain ⟨v, hc, hs⟩ := hbx
    exact ⟨v, hc.kp k h2, hs.kpx k hL h1⟩
  refine ⟨A, c, hb.kp k hn.1, ?_, hbox ho.v hM.1 hn.2.1, hbox ho.c hM.2.1 hn.2.2.1, hbox ho.p hM.2.2 hn.2.2.2, ho.ne, ho.ok, ho.gd⟩
  obtain ⟨h1, h2, h3, h4, h5⟩ := ho.e
  have off : ∀ ad, A = some ad → ad.block ∉ L := fun ad x hx => by
    obtain ⟨C, hC⟩ := h4 ad x
    exact (hL _ hx).1 _ _ hC rfl
  exact ⟨h1, h2, FRow.kp h3 k off, h4.kp k off, h5⟩
theorem HP.kpN {w w' : World} {g : Nat} {d : Hd} {b : Hb} {x : Hp} {L : List Nat} (h : HP w g d b x) (k : Kp L w w') (hL : ∀ y ∈ L, NB w y) (hn : g ∉ L ∧ b.v ∉ L ∧ b.c ∉ L ∧ b.p ∉ L) : HP w' g d b x :=
  h.kpx (M := [b.v, b.c, b.p]) k (fun y hy => (hL y hy).x) (by simp) hn
theorem HP.nb {w : World} {g : Nat} {d : Hd} {b : Hb} {x : Hp} (h : HP w g d b x) : ∀ y ∈ [g, b.v, b.c, b.p], NB w y := by
  obtain ⟨A, c, hb, ho⟩ := h
  intro y hy
  simp only [List.mem_cons, List.not_mem_nil, or_false] at hy
  rcases hy with rfl | rfl | rfl | rfl
  · exact NB.of hb (by decide) (by decide)
  · obtain ⟨v, h1, _⟩ := ho.v; exact NB.of h1 (by decide) (by decide)
  · obtain ⟨v, h1, _⟩ := ho.c; exact NB.of h1 (by decide) (by decide)
  · obtain ⟨v, h1, _⟩ := ho.p; exact NB.of h1 (by decide) (by decide)
/-- One access that was told. -/
structure Acc where
  st : Int
  ad : Int
  kd : Int
  wr : Bool
  dt : Int
def accC (a : Acc) : List Value := [.int .i64 a.st, .int .u32 a.ad, .int .u8 a.kd, .bool a.wr, .int .u8 a.dt]
def accL (l : List Acc) : List Value := l.flatMap accC
theorem accL_len (l : List Acc) : (accL l).length = l.length * 5 := by
  induction l with
  | nil => rfl
  | cons a l ih => simp only [accL, List.flatMap_cons, List.length_append, List.length_cons] at ih ⊢; rw [ih]; simp [accC]; omega
theorem accL_snoc (l : List Acc) (a : Acc) : accL (l ++ [a]) = accL l ++ accC a := by simp [accL]
/-- Where a bus's things are. -/
structure Bp where
  m : Nat
  mb : Option Nat
  p : Nat
  b : Hb
  tr : Value
/-- How a bus is. -/
structure Bs where
  now : Int
  cyc : Int
  fast : Bool
  asked : Bool
  next : Bool
  rv : Value
  rn : Nat
  rz : Nat → Int
  f : Nat → Int
  x : Hp
  left : Int
  over : Bool
  tl : List Acc
def buR (Q : Bp) (s : Bs) : Nat → Value
  | 5 => s.rv
  | 6 => .pointer (some ⟨Q.m, 0, none⟩)
  | 7 => .pointer (some ⟨Q.p, 0, none⟩)
  | 8 => .int .i64 s.left
  | 9 => .bool s.over
  | _ => Q.tr
def buC (Q : Bp) (s : Bs) : Array Value := buK (buR Q s) s.now s.cyc s.fast s.asked s.next
def Bs.ok (s : Bs) : Prop := 0 ≤ s.now ∧ 0 ≤ s.cyc ∧ 0 ≤ s.left ∧ s.left ≤ 1099511627776 ∧ ∀ i, i < 8192 → 0 ≤ s.f i ∧ s.f i ≤ 255
structure BU (w : World) (g : Nat) (d : Hd) (Q : Bp) (s : Bs) : Prop where
  blk : Blk w g 119 (buC Q s)
  ram : RD w Q.m Q.mb s.f
  pg : HP w Q.p d Q.b s.x
  rom : SliceB w g s.rv s.rn s.rz
  tr : w.ownsRow 0 129 5 Q.tr s.tl.length (accL s.tl)
  ok : s.ok
def bL (g : Nat) (Q : Bp) : List Nat := g :: Q.m :: (Q.mb.toList ++ [Q.p, Q.b.v, Q.b.c, Q.b.p] ++ Q.tr.ownBlock.toList)
section
variable {w w' : World} {g : Nat} {d : Hd} {Q : Bp} {s : Bs} {L : List Nat}
theorem RD.map_at {m : Nat} {mb : Option Nat} {f : Nat → Int} (h : RD w m mb f) (b : Nat) (hb : mb = some b) : ∃ es k, w.heap[b]? = some (.map es k) := by
  subst hb
  obtain ⟨_, D, ⟨es, k, hh, _⟩, _⟩ := h
  exact ⟨es, k, hh⟩
theorem tr_blk {v : Value} {n : Nat} {xs : List Value} (h : w.ownsRow 0 129 5 v n xs) (b : Nat) (hb : v.ownBlock = some b) : ∃ cs, Blk w b 129 cs := by
  rcases h.2 with ⟨rfl, _⟩ | ⟨g, cap, cur, rfl, _, hh, _⟩
  · cases hb
  · cases hb; exact ⟨cur, hh⟩
end
end Go.Proofs.YtngfmofjonleeaaGreat
namespace Go.Proofs.YtngfmofjonleeaaGreat
open Go.RowKit
set_option linter.unusedVariables false
set_option linter.unusedSimpArgs false
set_option maxRecDepth 100000
theorem own_kpL {w w' : World} {B e size n : Nat} {v : Value} {xs : List Value} {L : List Nat} (h : w.ownsRow B e size v n xs) (k : Kp L w w') (hL : ∀ b, v.ownBlock = some b → b ∉ L) : w'.ownsRow B e size v n xs := by
  refine ⟨h.1, ?_⟩
  rcases h.2 with h0 | ⟨g, cap, cur, rfl, hg, hh, h1⟩
  · exact .inl h0
  · refine .inr ⟨g, cap, cur, rfl, hg, ?_, h1⟩
    have hlt : g < w.heap.size := (Array.getElem?_eq_some_iff.1 hh).1
    rw [k.block g hlt (hL g rfl)]; exact hh
section
variable {w w' : World} {g : Nat} {d : Hd} {Q : Bp} {s : Bs} {L : List Nat}
theorem mem_bL {y : Nat} : y ∈ bL g Q ↔ y = g ∨ y = Q.m ∨ Q.mb = some y ∨ y = Q.p ∨ y = Q.b.v ∨ y = Q.b.c ∨ y = Q.b.p ∨ Q.tr.ownBlock = some y := by
  simp only [bL, List.mem_cons, List.mem_append, Option.mem_toList, List.not_mem_nil, or_false, Option.mem_def]
  constructor
  · rintro (h | h | (h | h | h | h | h) | h) <;> simp [h]
  · rintro (h | h | h | h | h | h | h | h) <;> simp [h]
theorem BU.nb (h : BU w g d Q s) : ∀ y ∈ bL g Q, NB w y := by
  intro y hy
  rcases mem_bL.1 hy with rfl | rfl | e | rfl | rfl | rfl | rfl | e
  · exact NB.of h.blk (by decide) (by decide)
  · exact NB.of h.ram.1 (by decide) (by decide)
  · obtain ⟨es, k, hh⟩ := h.ram.map_at y e; exact NB.map hh
  · exact h.pg.nb _ (by simp)
  · exact h.pg.nb _ (by simp)
  · exact h.pg.nb _ (by simp)
  · exact h.pg.nb _ (by simp)
  · obtain ⟨cs, hc⟩ := tr_blk h.tr y e; exact NB.of hc (by decide) (by decide)
theorem BU.lt (h : BU w g d Q s) : ∀ y ∈ bL g Q, y < w.heap.size := by
  intro y hy
  rcases mem_bL.1 hy with rfl | rfl | e | rfl | rfl | rfl | rfl | e
  · exact h.blk.lt
  · exact h.ram.1.lt
  · obtain ⟨es, k, hh⟩ := h.ram.map_at y e; exact (Array.getElem?_eq_some_iff.1 hh).1
  · exact h.pg.lt.1
  · exact h.pg.lt.2.1
  · exact h.pg.lt.2.2.1
  · exact h.pg.lt.2.2.2
  · obtain ⟨cs, hc⟩ := tr_blk h.tr y e; exact hc.lt
theorem BU.kpx (h : BU w g d Q s) (k : Kp L w w') (hN : ∀ y ∈ L, NBx w [g, Q.b.v, Q.b.c, Q.b.p] y) (hL : ∀ y ∈ bL g Q, y ∉ L) : BU w' g d Q s :=
  ⟨h.blk.kp k (hL _ (mem_bL.2 (.inl rfl))), h.ram.kp k (hL _ (mem_bL.2 (.inr (.inl rfl)))) (fun b e => hL _ (mem_bL.2 (.inr (.inr (.inl e))))),
    h.pg.kpx k hN (by simp) ⟨hL _ (mem_bL.2 (by simp)), hL _ (mem_bL.2 (by simp)), hL _ (mem_bL.2 (by simp)), hL _ (mem_bL.2 (by simp))⟩, h.rom.kpx k hN (by simp),
    own_kpL h.tr k (fun b e => hL _ (mem_bL.2 (by simp [e]))), h.ok⟩
theorem BU.kp (h : BU w g d Q s) (k : Kp L w w') (hN : ∀ y ∈ L, NB w y) (hL : ∀ y ∈ bL g Q, y ∉ L) : BU w' g d Q s := h.kpx k (fun y hy => (hN y hy).x) hL
theorem BU.keep (h : BU w g d Q s) (k : Below w.heap.size w w') : BU w' g d Q s := h.kp (L := []) (Kp.of_below k) (by simp) (by simp)
theorem BU.kp0 (h : BU w g d Q s) (k : Kp [] w w') : BU w' g d Q s := h.kp k (by simp) (by simp)
/-- A block of another type than those of a bus's. -/
theorem not_map {y : Nat} {t : TypeId} {cs : Array Value} (hb : Blk w y t cs) {es : Array MapEntry} {k : Nat} (h : w.heap[y]? = some (.map es k)) : False := by
  have h2 : w.heap[y]? = some (Obj.cells cs t (0, 0)) := hb
  rw [h] at h2; cases h2
theorem BU.boxes (h : BU w g d Q s) : (∃ v, Blk w Q.b.v 34 #[v]) ∧ (∃ v, Blk w Q.b.c 34 #[v]) ∧ (∃ v, Blk w Q.b.p 34 #[v]) ∧ (∃ cs, Blk w Q.p 92 cs) := by
  obtain ⟨A, c, hb, ho⟩ := h.pg
  obtain ⟨v1, h1, _⟩ := ho.v
  obtain ⟨v2, h2, _⟩ := ho.c
  obtain ⟨v3, h3, _⟩ := ho.p
  exact ⟨⟨_, h1⟩, ⟨_, h2⟩, ⟨_, h3⟩, ⟨_, hb⟩⟩
theorem BU.off (h : BU w g d Q s) {y : Nat} {t : TypeId} {cs : Array Value} (hb : Blk w y t cs) (h1 : t ≠ 119) (h2 : t ≠ 159) (h3 : t ≠ 92) (h4 : t ≠ 34) (h5 : t ≠ 129) : y ∉ bL g Q := by
  intro hy
  obtain ⟨⟨v1, b1⟩, ⟨v2, b2⟩, ⟨v3, b3⟩, ⟨cp, bp⟩⟩ := h.boxes
  rcases mem_bL.1 hy with rfl | rfl | e | rfl | rfl | rfl | rfl | e
  · exact hb.ne_ h.blk h1 rfl
  · exact hb.ne_ h.ram.1 h2 rfl
  · obtain ⟨es, k, hh⟩ := h.ram.map_at y e; exact not_map hb hh
  · exact hb.ne_ bp h3 rfl
  · exact hb.ne_ b1 h4 rfl
  · exact hb.ne_ b2 h4 rfl
  · exact hb.ne_ b3 h4 rfl
  · obtain ⟨cs', hc⟩ := tr_blk h.tr y e; exact hb.ne_ hc h5 rfl
/-- Its own cells change alone. -/
theorem BU.own {s' : Bs} (h : BU w g d Q s) (k : Kp [g] w w') (hb : Blk w' g 119 (buC Q s')) (e1 : s'.f = s.f) (e2 : s'.x = s.x) (e3 : s'.rv = s.rv ∧ s'.rn = s.rn ∧ s'.rz = s.rz) (e4 : s'.tl = s.tl) (ok : s'.ok) : BU w' g d Q s' := by
  obtain ⟨⟨v1, b1⟩, ⟨v2, b2⟩, ⟨v3, b3⟩, ⟨cp, bp⟩⟩ := h.boxes
  have nb : ∀ y ∈ [g], NB w y := fun y hy => h.nb y (mem_bL.2 (.inl (by simpa using hy)))
  refine ⟨hb, ?_, ?_, ?_, ?_, ok⟩
  · rw [e1]
    refine h.ram.kp k ?_ ?_
    · simpa using h.ram.1.ne_ h.blk (by decide)
    · intro b e hy
      obtain ⟨es, k2, hh⟩ := h.ram.map_at b e
      obtain rfl : b = g := by simpa using hy
      exact not_map h.blk hh
  · rw [e2]
    refine h.pg.kpN k nb ⟨?_, ?_, ?_, ?_⟩
    · simpa using bp.ne_ h.blk (by decide)
    · simpa using b1.ne_ h.blk (by decide)
    · simpa using b2.ne_ h.blk (by decide)
    · simpa using b3.ne_ h.blk (by decide)
  · rw [e3.1, e3.2.1, e3.2.2]; exact h.rom.kpN k nb
  · rw [e4]
    refine own_kpL h.tr k fun b e => ?_
    obtain ⟨cs', hc⟩ := tr_blk h.tr b e
    simpa using hc.ne_ h.blk (by decide)
/-- The page changes alone. -/
theorem BU.page {y : Hp} (h : BU w g d Q s) (k : Kp [Q.p, Q.b.v, Q.b.c, Q.b.p] w w') (hp : HP w' Q.p d Q.b y) : BU w' g d Q { s with x := y } := by
  obtain ⟨⟨v1, b1⟩, ⟨v2, b2⟩, ⟨v3, b3⟩, ⟨cp, bp⟩⟩ := h.boxes
  have nb : ∀ y ∈ [Q.p, Q.b.v, Q.b.c, Q.b.p], NB w y := h.pg.nb
  have off : ∀ {u : Nat} {t : TypeId} {cs : Array Value}, Blk w u t cs → t ≠ 92 → t ≠ 34 → u ∉ [Q.p, Q.b.v, Q.b.c, Q.b.p] := fun hu n1 n2 hy => by
    simp only [List.mem_cons, List.not_mem_nil, or_false] at hy
    rcases hy with rfl | rfl | rfl | rfl
    · exact hu.ne_ bp n1 rfl
    · exact hu.ne_ b1 n2 rfl
    · exact hu.ne_ b2 n2 rfl
    · exact hu.ne_ b3 n2 rfl
  refine ⟨h.blk.kp k (off h.blk (by decide) (by decide)), h.ram.kp k (off h.ram.1 (by decide) (by decide)) ?_, hp, h.rom.kpN k nb, own_kpL h.tr k ?_, h.ok⟩
  · intro b e hy
    obtain ⟨es, k2, hh⟩ := h.ram.map_at b e
    simp only [List.mem_cons, List.not_mem_nil, or_false] at hy
    rcases hy with rfl | rfl | rfl | rfl
    · exact not_map bp hh
    · exact not_map b1 hh
    · exact not_map b2 hh
    · exact not_map b3 hh
  · intro b e
    obtain ⟨cs', hc⟩ := tr_blk h.tr b e
    exact off hc (by decide) (by decide)
/-- Work memory changes alone. -/
theorem BU.mem {mb' : Option Nat} {f' : Nat → Int} (h : BU w g d Q s) (k : Kp (Q.m :: Q.mb.toList) w w') (hr : RD w' Q.m mb' f') (hf : ∀ i, i < 8192 → 0 ≤ f' i ∧ f' i ≤ 255) : BU w' g d { Q with mb := mb' } { s with f := f' } := by
  obtain ⟨⟨v1, b1⟩, ⟨v2, b2⟩, ⟨v3, b3⟩, ⟨cp, bp⟩⟩ := h.boxes
  have nb : ∀ y ∈ Q.m :: Q.mb.toList, NB w y := fun y hy => h.nb y (mem_bL.2 (by
    simp only [List.mem_cons, Option.mem_toList, Option.mem_def] at hy
    rcases hy with hy | hy <;> simp [hy]))
  have off : ∀ {u : Nat} {t : TypeId} {cs : Array Value}, Blk w u t cs → t ≠ 159 → u ∉ Q.m :: Q.mb.toList := fun hu n1 hy => by
    simp only [List.mem_cons, Option.mem_toList, Option.mem_def] at hy
    rcases hy with rfl | e
    · exact hu.ne_ h.ram.1 n1 rfl
    · obtain ⟨es, k2, hh⟩ := h.ram.map_at _ e; exact not_map hu hh
  refine ⟨h.blk.kp k (off h.blk (by decide)), hr, h.pg.kpN k nb ⟨off bp (by decide), off b1 (by decide), off b2 (by decide), off b3 (by decide)⟩, h.rom.kpN k nb, own_kpL h.tr k ?_, ?_⟩
  · intro b e
    obtain ⟨cs', hc⟩ := tr_blk h.tr b e
    exact off hc (by decide)
  · obtain ⟨o1, o2, o3, o4, _⟩ := h.ok
    exact ⟨o1, o2, o3, o4, hf⟩
end
/-- What a call on a bus leaves. -/
def BuR (v : Value) (g : Nat) (d : Hd) (Q : Bp) (s : Bs) (w : World) (e : Ending) (w' : World) : Prop :=
  ∃ Q', e = .returned v ∧ BU w' g d Q' s ∧ Kp (bL g Q) w w' ∧ (∀ y ∈ bL g Q', y ∈ bL g Q ∨ w.heap.size ≤ y) ∧ Q'.p = Q.p ∧ Q'.b = Q.b ∧ Q'.m = Q.m
end Go.Proofs.YtngfmofjonleeaaGreat
