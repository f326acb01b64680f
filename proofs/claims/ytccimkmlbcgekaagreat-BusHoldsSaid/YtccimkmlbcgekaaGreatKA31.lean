/-
  Texts of these proofs, one behind the other: Bus3, Ram4, Cart1.
-/
import Derived.Test.YtccimkmlbcgekaaGreatKA30
import Derived.Test.YtccimkmlbcgekaaGreatKA29
import Derived.Test.YtccimkmlbcgekaaGreatProg
import Derived.WalkKit
import Derived.WalkSpells
import Derived.Handy
import Derived.Lib.Hide
namespace Go.Proofs.YtccimkmlbcgekaaGreat
open Go.RowKit
set_option linter.unusedVariables false
set_option linter.unusedSimpArgs false
set_option maxRecDepth 100000
theorem own_kpL {w w' : World} {B e size n : Nat} {v : Value} {xs : List Value} {L : List Nat} (h : w.ownsRow B e size v n xs) (k : Kp L w w') (hL : ∀ b, v.ownBlock = some b → b ∉ L) : w'.ownsRow B e size v n xs := by
  refine ⟨h.1, ?_⟩
  rcases h.2 with h0 | ⟨g, cap, cur, rfl, hg, hh, h1⟩
  · exact .inl h0
  · refine .inr ⟨g, cap, cur, rfl, hg, ?_, h1⟩
    have hlt : g < w.heap.size := (Array.getElem?_eq_some_iff.1 hh).1
    rw [k.block g hlt (hL g rfl)]; exact hh
section
variable {w w' : World} {g : Nat} {d : Hd} {Q : Bp} {s : Bs} {L : List Nat}
theorem mem_bL {y : Nat} : y ∈ bL g Q ↔ y = g ∨ y = Q.m ∨ Q.mb = some y ∨ y = Q.p ∨ y = Q.b.v ∨ y = Q.b.c ∨ y = Q.b.p ∨ Q.tr.ownBlock = some y := by
  simp only [bL, List.mem_cons, List.mem_append, Option.mem_toList, List.not_mem_nil, or_false, Option.mem_def]
  constructor
  · rintro (h | h | (h | h | h | h | h) | h) <;> simp [h]
  · rintro (h | h | h | h | h | h | h | h) <;> simp [h]
theorem BU.nb (h : BU w g d Q s) : ∀ y ∈ bL g Q, NB w y := by
  intro y hy
  rcases mem_bL.1 hy with rfl | rfl | e | rfl | rfl | rfl | rfl | e
  · exact NB.of h.blk (by decide) (by decide)
  · exact NB.of h.ram.1 (by decide) (by decide)
  · obtain ⟨es, k, hh⟩ := h.ram.map_at y e; exact NB.map hh
  · exact h.pg.nb _ (by simp)
  · exact h.pg.nb _ (by simp)
  · exact h.pg.nb _ (by simp)
  · exact h.pg.nb _ (by simp)
  · obtain ⟨cs, hc⟩ := tr_blk h.tr y e; exact NB.of hc (by decide) (by decide)
theorem BU.lt (h : BU w g d Q s) : ∀ y ∈ bL g Q, y < w.heap.size := by
  intro y hy
  rcases mem_bL.1 hy with rfl | rfl | e | rfl | rfl | rfl | rfl | e
  · exact h.blk.lt
  · exact h.ram.1.lt
  · obtain ⟨es, k, hh⟩ := h.ram.map_at y e; exact (Array.getElem?_eq_some_iff.1 hh).1
  · exact h.pg.lt.1
  · exact h.pg.lt.2.1
  · exact h.pg.lt.2.2.1
  · exact h.pg.lt.2.2.2
  · obtain ⟨cs, hc⟩ := tr_blk h.tr y e; exact hc.lt
theorem BU.kp (h : BU w g d Q s) (k : Kp L w w') (hN : ∀ y ∈ L, NB w y) (hL : ∀ y ∈ bL g Q, y ∉ L) : BU w' g d Q s :=
  ⟨h.blk.kp k (hL _ (mem_bL.2 (.inl rfl))), h.ram.kp k (hL _ (mem_bL.2 (.inr (.inl rfl)))) (fun b e => hL _ (mem_bL.2 (.inr (.inr (.inl e))))),
    h.pg.kpN k hN ⟨hL _ (mem_bL.2 (by simp)), hL _ (mem_bL.2 (by simp)), hL _ (mem_bL.2 (by simp)), hL _ (mem_bL.2 (by simp))⟩, h.rom.kpN k hN,
    own_kpL h.tr k (fun b e => hL _ (mem_bL.2 (by simp [e]))), h.ok⟩
theorem BU.keep (h : BU w g d Q s) (k : Below w.heap.size w w') : BU w' g d Q s := h.kp (L := []) (Kp.of_below k) (by simp) (by simp)
theorem BU.kp0 (h : BU w g d Q s) (k : Kp [] w w') : BU w' g d Q s := h.kp k (by simp) (by simp)
/-- A block of another type than those of a bus's. -/
theorem not_map {y : Nat} {t : TypeId} {cs : Array Value} (hb : Blk w y t cs) {es : Array MapEntry} {k : Nat} (h : w.heap[y]? = some (.map es k)) : False := by
  have h2 : w.heap[y]? = some (Obj.cells cs t (0, 0)) := hb
  rw [h] at h2; cases h2
theorem BU.boxes (h : BU w g d Q s) : (∃ v, Blk w Q.b.v 22 #[v]) ∧ (∃ v, Blk w Q.b.c 22 #[v]) ∧ (∃ v, Blk w Q.b.p 22 #[v]) ∧ (∃ cs, Blk w Q.p 112 cs) := by
  obtain ⟨A, c, hb, ho⟩ := h.pg
  obtain ⟨v1, h1, _⟩ := ho.v
  obtain ⟨v2, h2, _⟩ := ho.c
  obtain ⟨v3, h3, _⟩ := ho.p
  exact ⟨⟨_, h1⟩, ⟨_, h2⟩, ⟨_, h3⟩, ⟨_, hb⟩⟩
theorem BU.off (h : BU w g d Q s) {y : Nat} {t : TypeId} {cs : Array Value} (hb : Blk w y t cs) (h1 : t ≠ 139) (h2 : t ≠ 188) (h3 : t ≠ 112) (h4 : t ≠ 22) (h5 : t ≠ 64) : y ∉ bL g Q := by
  intro hy
  obtain ⟨⟨v1, b1⟩, ⟨v2, b2⟩, ⟨v3, b3⟩, ⟨cp, bp⟩⟩ := h.boxes
  rcases mem_bL.1 hy with rfl | rfl | e | rfl | rfl | rfl | rfl | e
  · exact hb.ne_ h.blk h1 rfl
  · exact hb.ne_ h.ram.1 h2 rfl
  · obtain ⟨es, k, hh⟩ := h.ram.map_at y e; exact not_map hb hh
  · exact hb.ne_ bp h3 rfl
  · exact hb.ne_ b1 h4 rfl
  · exact hb.ne_ b2 h4 rfl
  · exact hb.ne_ b3 h4 rfl
  · obtain ⟨cs', hc⟩ := tr_blk h.tr y e; exact hb.ne_ hc h5 rfl
/-- Its own cells change alone. -/
theorem BU.own {s' : Bs} (h : BU w g d Q s) (k : Kp [g] w w') (hb : Blk w' g 139 (buC Q s')) (e1 : s'.f = s.f) (e2 : s'.x = s.x) (e3 : s'.rv = s.rv ∧ s'.rn = s.rn ∧ s'.rz = s.rz) (e4 : s'.tl = s.tl) (ok : s'.ok) : BU w' g d Q s' := by
  obtain ⟨⟨v1, b1⟩, ⟨v2, b2⟩, ⟨v3, b3⟩, ⟨cp, bp⟩⟩ := h.boxes
  have nb : ∀ y ∈ [g], NB w y := fun y hy => h.nb y (mem_bL.2 (.inl (by simpa using hy)))
  refine ⟨hb, ?_, ?_, ?_, ?_, ok⟩
  · rw [e1]
    refine h.ram.kp k ?_ ?_
    · simpa using h.ram.1.ne_ h.blk (by decide)
    · intro b e hy
      obtain ⟨es, k2, hh⟩ := h.ram.map_at b e
      obtain rfl : b = g := by simpa using hy
      exact not_map h.blk hh
  · rw [e2]
    refine h.pg.kpN k nb ⟨?_, ?_, ?_, ?_⟩
    · simpa using bp.ne_ h.blk (by decide)
    · simpa using b1.ne_ h.blk (by decide)
    · simpa using b2.ne_ h.blk (by decide)
    · simpa using b3.ne_ h.blk (by decide)
  · rw [e3.1, e3.2.1, e3.2.2]; exact h.rom.kpN k nb
  · rw [e4]
    refine own_kpL h.tr k fun b e => ?_
    obtain ⟨cs', hc⟩ := tr_blk h.tr b e
    simpa using hc.ne_ h.blk (by decide)
/-- The page changes alone. -/
theorem BU.page {y : Hp} (h : BU w g d Q s) (k : Kp [Q.p, Q.b.v, Q.b.c, Q.b.p] w w') (hp : HP w' Q.p d Q.b y) : BU w' g d Q { s with x := y } := by
  obtain ⟨⟨v1, b1⟩, ⟨v2, b2⟩, ⟨v3, b3⟩, ⟨cp, bp⟩⟩ := h.boxes
  have nb : ∀ y ∈ [Q.p, Q.b.v, Q.b.c, Q.b.p], NB w y := h.pg.nb
  have off : ∀ {u : Nat} {t : TypeId} {cs : Array Value}, Blk w u t cs → t ≠ 112 → t ≠ 22 → u ∉ [Q.p, Q.b.v, Q.b.c, Q.b.p] := fun hu n1 n2 hy => by
    simp only [List.mem_cons, List.not_mem_nil, or_false] at hy
    rcases hy with rfl | rfl | rfl | rfl
    · exact hu.ne_ bp n1 rfl
    · exact hu.ne_ b1 n2 rfl
    · exact hu.ne_ b2 n2 rfl
    · exact hu.ne_ b3 n2 rfl
  refine ⟨h.blk.kp k (off h.blk (by decide) (by decide)), h.ram.kp k (off h.ram.1 (by decide) (by decide)) ?_, hp, h.rom.kpN k nb, own_kpL h.tr k ?_, h.ok⟩
  · intro b e hy
    obtain ⟨es, k2, hh⟩ := h.ram.map_at b e
    simp only [List.mem_cons, List.not_mem_nil, or_false] at hy
    rcases hy with rfl | rfl | rfl | rfl
    · exact not_map bp hh
    · exact not_map b1 hh
    · exact not_map b2 hh
    · exact not_map b3 hh
  · intro b e
    obtain ⟨cs', hc⟩ := tr_blk h.tr b e
    exact off hc (by decide) (by decide)
/-- Work memory changes alone. -/
theorem BU.mem {mb' : Option Nat} {f' : Nat → Int} (h : BU w g d Q s) (k : Kp (Q.m :: Q.mb.toList) w w') (hr : RD w' Q.m mb' f') (hf : ∀ i, i < 8192 → 0 ≤ f' i ∧ f' i ≤ 255) : BU w' g d { Q with mb := mb' } { s with f := f' } := by
  obtain ⟨⟨v1, b1⟩, ⟨v2, b2⟩, ⟨v3, b3⟩, ⟨cp, bp⟩⟩ := h.boxes
  have nb : ∀ y ∈ Q.m :: Q.mb.toList, NB w y := fun y hy => h.nb y (mem_bL.2 (by
    simp only [List.mem_cons, Option.mem_toList, Option.mem_def] at hy
    rcases hy with hy | hy <;> simp [hy]))
  have off : ∀ {u : Nat} {t : TypeId} {cs : Array Value}, Blk w u t cs → t ≠ 188 → u ∉ Q.m :: Q.mb.toList := fun hu n1 hy => by
    simp only [List.mem_cons, Option.mem_toList, Option.mem_def] at hy
    rcases hy with rfl | e
    · exact hu.ne_ h.ram.1 n1 rfl
    · obtain ⟨es, k2, hh⟩ := h.ram.map_at _ e; exact not_map hu hh
  refine ⟨h.blk.kp k (off h.blk (by decide)), hr, h.pg.kpN k nb ⟨off bp (by decide), off b1 (by decide), off b2 (by decide), off b3 (by decide)⟩, h.rom.kpN k nb, own_kpL h.tr k ?_, ?_⟩
  · intro b e
    obtain ⟨cs', hc⟩ := tr_blk h.tr b e
    exact off hc (by decide)
  · obtain ⟨o1, o2, o3, o4, _⟩ := h.ok
    exact ⟨o1, o2, o3, o4, hf⟩
end
/-- What a call on a bus leaves. -/
def BuR (v : Value) (g : Nat) (d : Hd) (Q : Bp) (s : Bs) (w : World) (e : Ending) (w' : World) : Prop :=
  ∃ Q', e = .returned v ∧ BU w' g d Q' s ∧ Kp (bL g Q) w w' ∧ (∀ y ∈ bL g Q', y ∈ bL g Q ∨ w.heap.size ≤ y) ∧ Q'.p = Q.p ∧ Q'.b = Q.b ∧ Q'.m = Q.m
end Go.Proofs.YtccimkmlbcgekaaGreat
namespace Go.Proofs.YtccimkmlbcgekaaGreat
open Go.RowKit
set_option linter.unusedVariables false
set_option linter.unusedSimpArgs false
set_option maxRecDepth 100000
theorem arr_set (z : Nat → Int) (i : Nat) (b : Int) : (arr z).setIfInBounds i (.int .u8 b) = arr (fun j => if j = i then b else z j) := by
  apply Array.ext_getElem?
  intro j
  rw [Array.getElem?_setIfInBounds]
  by_cases hj : j < 64
  · rw [arr_at _ j hj, arr_at _ j hj]
    by_cases h : i = j
    · subst h; rw [if_pos rfl, if_pos rfl, if_pos (by rw [arr_size]; exact hj)]
    · rw [if_neg h, if_neg (by omega)]
  · rw [Array.getElem?_eq_none (by rw [arr_size]; omega), Array.getElem?_eq_none (by rw [arr_size]; omega)]
    split <;> simp [arr_size] <;> omega
theorem Kp.behind {w w1 w2 : World} {L : List Nat} (h : Below w.heap.size w w1) (k : Kp L w1 w2) : Kp L w w2 :=
  ⟨k.os.trans h.os, k.tape.trans h.tape, k.output.trans h.output, Nat.le_trans h.size k.size, fun i hi hn => (k.block i (Nat.lt_of_lt_of_le hi h.size) hn).trans (h.block i hi)⟩
theorem rnew_any (w : World) : Calls Tryz.prog 51 #[] w fun e w' => e = .returned (.pointer (some ⟨w.heap.size, 0, none⟩)) ∧ RD w' w.heap.size none (fun _ => 0) ∧ Below w.heap.size w w' := by
  go_enter Tryz.func51, Tryz.ntmps51
  go_wp2
  go_ret
  exact ⟨rfl, ⟨Blk.new w _ _, fun _ _ => rfl⟩, (Below.refl _ _).alloc (Nat.le_refl _) _⟩
theorem rread_any {w : World} {g : Nat} {mb : Option Nat} {f : Nat → Int} (h : RD w g mb f) (a : Int) (a0 : 0 ≤ a) (a1 : a ≤ 65535) :
    Calls Tryz.prog 78 #[.pointer (some ⟨g, 0, none⟩), .int .u16 a] w fun e w' => e = .returned (.int .u8 (f (a % 8192).toNat)) ∧ Below w.heap.size w w' := by
  obtain ⟨n, hn⟩ := Int.eq_ofNat_of_zero_le (show 0 ≤ a % 8192 / 64 by omega)
  obtain ⟨i, hi⟩ := Int.eq_ofNat_of_zero_le (show 0 ≤ a % 8192 % 64 by omega)
  have hn' : n < 128 := by omega
  have hi' : i < 64 := by omega
  have e : (a % 8192).toNat = 64 * n + i := by omega
  rw [e]
  have HN := Lib.hid hn
  have HI := Lib.hid hi
  have HH := Lib.hid h
  clear hn hi h e
  have hx := fun W => run_index_agg (P := Tryz.prog) (t := 193) Tryz.underlying193 (by kernel_rfl) (cs := bk f n) (k := .i64) (i := (i : Int)) (by omega) (by omega) (arr_at _ i hi') W
  go_enter Tryz.func78, Tryz.ntmps78
  go_wp2_with fail
  refine (place_any a _ a0 a1).mono ?_
  rw [HN.out, HI.out]
  rintro e w' ⟨rfl, rfl⟩
  go_wp2_with fail
  refine (block_any HH.out n hn').mono ?_
  rintro e w1 ⟨rfl, hb⟩
  go_wp2_with fail
  go_ret
  exact ⟨rfl, hb⟩
theorem rread_nil (w : World) (a : Int) (a0 : 0 ≤ a) (a1 : a ≤ 65535) :
    Calls Tryz.prog 78 #[.pointer none, .int .u16 a] w fun e w' => e = .returned (.int .u8 0) ∧ Below w.heap.size w w' := by
  obtain ⟨n, hn⟩ := Int.eq_ofNat_of_zero_le (show 0 ≤ a % 8192 / 64 by omega)
  obtain ⟨i, hi⟩ := Int.eq_ofNat_of_zero_le (show 0 ≤ a % 8192 % 64 by omega)
  have hi' : i < 64 := by omega
  have HN := Lib.hid hn
  have HI := Lib.hid hi
  clear hn hi
  have hx := fun W => run_index_agg (P := Tryz.prog) (t := 193) Tryz.underlying193 (by kernel_rfl) (cs := arr fun _ => 0) (k := .i64) (i := (i : Int)) (by omega) (by omega) (arr_at _ i hi') W
  go_enter Tryz.func78, Tryz.ntmps78
  go_wp2_with fail
  refine (place_any a _ a0 a1).mono ?_
  rw [HN.out, HI.out]
  rintro e w' ⟨rfl, rfl⟩
  go_wp2_with fail
  refine (block_nil n _).mono ?_
  rintro e w1 ⟨rfl, hb⟩
  go_wp2_with fail
  go_ret
  exact ⟨rfl, hb⟩
/-- Memory with a byte written. -/
def fw (f : Nat → Int) (a b : Int) (j : Nat) : Int := if j = (a % 8192).toNat then b else f j
def WriteR (g : Nat) (mb : Option Nat) (f : Nat → Int) (w : World) (e : Ending) (w' : World) : Prop :=
  e = .returned (.tuple #[]) ∧ ∃ mb', RD w' g mb' f ∧ Kp (g :: mb.toList) w w' ∧ (mb' = mb ∨ ∃ b', mb' = some b' ∧ w.heap.size ≤ b')
set_option maxHeartbeats 1000000 in
theorem rwrite_any {w : World} {g : Nat} {mb : Option Nat} {f : Nat → Int} (h : RD w g mb f) (a b : Int) (a0 : 0 ≤ a) (a1 : a ≤ 65535) :
    Calls Tryz.prog 55 #[.pointer (some ⟨g, 0, none⟩), .int .u16 a, .int .u8 b] w (WriteR g mb (fw f a b) w) := by
  obtain ⟨n, hn⟩ := Int.eq_ofNat_of_zero_le (show 0 ≤ a % 8192 / 64 by omega)
  obtain ⟨i, hi⟩ := Int.eq_ofNat_of_zero_le (show 0 ≤ a % 8192 % 64 by omega)
  have hn' : n < 128 := by omega
  have hi' : i < 64 := by omega
  have e : (a % 8192).toNat = 64 * n + i := by omega
  have HE := Lib.hid e
  have HN := Lib.hid hn
  have HI := Lib.hid hi
  have HH := Lib.hid h
  clear hn hi h e
  have hz := zero88
  have hst := store_new
  have hsz := arr_size
  go_enter Tryz.func55, Tryz.ntmps55
  go_wp2_with fail
  refine (place_any a _ a0 a1).mono ?_
  rw [HN.out, HI.out]
  rintro e w' ⟨rfl, rfl⟩
  go_wp2_with fail
  refine (block_any HH.out n hn').mono ?_
  rintro e w1 ⟨rfl, hb⟩
  unfold bk
  have HS : Hid ((Tryz.prog.info? 193).map (·.size) = some ((arr fun j => f (64 * n + j)).setIfInBounds i (.int .u8 b)).size) := Lib.hid (by rw [Array.size_setIfInBounds, arr_size]; exact size88)
  go_wp2_with (refine wpList_load_row rfl 193 (.tmp 8) rfl w1.heap.size (by rfl) 193 ((arr fun j => f (64 * n + j)).setIfInBounds i (.int .u8 b)) (0, 0) _ (heap_alloc_new w1 _) Tryz.underlying193 rfl HS.out ?_)
  rw [arr_set]
  have kb : Below w1.heap.size w1 (w1.alloc (.cells (arr fun j => if j = i then b else f (64 * n + j)) 193)) := (Below.refl _ _).alloc (Nat.le_refl _) _
  have HW := (HH.out.keep hb).keep kb
  have hbs := hb.size
  refine (put_any HW n hn' _).mono ?_
  rintro e w2 ⟨rfl, mb', h1, h2, h3⟩
  have H1 := Lib.hid h1
  clear h1
  go_wp2_with fail
  go_end0
  refine ⟨rfl, mb', ⟨H1.out.1, H1.out.2.congr fun j hj => ?_⟩, Kp.behind hb (Kp.behind kb h2), ?_⟩
  · unfold fw fput
    rw [HE.out]
    by_cases h4 : 64 * n ≤ j ∧ j < 64 * n + 64
    · rw [if_pos h4]
      show _ = if j - 64 * n = i then b else f (64 * n + (j - 64 * n))
      by_cases h5 : j = 64 * n + i
      · rw [if_pos h5, if_pos (by omega)]
      · rw [if_neg h5, if_neg (by omega)]; congr 1; omega
    · rw [if_neg h4, if_neg (by omega)]
  · rcases h3 with h3 | ⟨b', h3, h4⟩
    · exact .inl h3
    · exact .inr ⟨b', h3, by simp at h4; omega⟩
theorem rwrite_nil (w : World) (a b : Int) : Calls Tryz.prog 55 #[.pointer none, .int .u16 a, .int .u8 b] w fun e w' => e = .returned (.tuple #[]) ∧ w = w' := by
  go_enter Tryz.func55, Tryz.ntmps55
  go_wp2
  refine bodyPost_ret (results_none rfl _ _ _) rfl ?_
  exact ⟨rfl, rfl⟩
theorem cnt_zero {f : Nat → Int} (h : ∀ i, i < 8192 → f i = 0) : cnt f 128 = 0 := by
  have := (MV.zero h).2.2
  rw [← this]; rfl
theorem rclone_nil (w : World) : Calls Tryz.prog 64 #[.pointer none] w fun e w' => e = .returned (.pointer none) ∧ w = w' := by
  go_enter Tryz.func64, Tryz.ntmps64
  go_wp2
  go_ret
  exact ⟨rfl, rfl⟩
end Go.Proofs.YtccimkmlbcgekaaGreat
namespace Go.Proofs.YtccimkmlbcgekaaGreat
open Go.RowKit
set_option linter.unusedVariables false
def mayB (n : Int) : Bool := decide (1 ≤ n ∧ n ≤ 128)
set_option maxHeartbeats 400000 in
theorem may_any (n : Int) (w : World) :
    Calls Tryz.prog 147 #[.int .i64 n] w fun e w' => e = .returned (.bool (mayB n)) ∧ w = w' := by
  by_cases h : 1 ≤ n
  · by_cases h2 : n ≤ 128
    · have e : mayB n = true := decide_eq_true ⟨h, h2⟩
      have H := Lib.hid e
      clear e
      go_enter Tryz.func147, Tryz.ntmps147
      go_wp2
      go_ret
      exact ⟨by rw [H.out]; simp, rfl⟩
    · have e : mayB n = false := decide_eq_false (by omega)
      have H := Lib.hid e
      have d : decide (n ≤ 128) = false := decide_eq_false h2
      clear e h2
      go_enter Tryz.func147, Tryz.ntmps147
      go_wp2
      go_ret
      exact ⟨by rw [H.out]; simp, rfl⟩
  · have e : mayB n = false := decide_eq_false (by omega)
    have H := Lib.hid e
    have d : decide (1 ≤ n) = false := decide_eq_false h
    clear e h
    go_enter Tryz.func147, Tryz.ntmps147
    go_wp2
    go_ret
    exact ⟨by rw [H.out]; simp, rfl⟩
/-- Of so many bytes: are they an image? -/
def imgE (n : Nat) : Int := if 0 < n ∧ n % 8192 = 0 ∧ n ≤ 1048576 then 0 else 6
set_option maxHeartbeats 1000000 in
theorem check_any (A : Option Addr) (n c : Nat) (w : World) (hn : n ≤ maxLen) :
    Calls Tryz.prog 175 #[.slice A n c] w fun e w' => e = .returned (.int .i64 (imgE n)) ∧ w = w' := by
  unfold maxLen at hn
  by_cases h : n % 8192 = 0
  · have d1 : ((n : Int) % 8192 != 0) = false := by rw [bne_eq_false_iff_eq]; omega
    by_cases h2 : mayB ((n : Int) / 8192) = true
    · have e : imgE n = 0 := by unfold mayB at h2; simp only [decide_eq_true_eq] at h2; unfold imgE; rw [if_pos]; omega
      have H := Lib.hid e
      clear e h
      go_enter Tryz.func175, Tryz.ntmps175
      go_wp2_with (go_at_call 147; refine (may_any _ _).mono ?_; rintro e w' ⟨rfl, rfl⟩)
      go_ret
      exact ⟨by rw [H.out]; rfl, rfl⟩
    · have h3 : mayB ((n : Int) / 8192) = false := by simpa using h2
      have e : imgE n = 6 := by unfold mayB at h2; simp only [decide_eq_true_eq] at h2; unfold imgE; rw [if_neg]; omega
      have H := Lib.hid e
      clear e h h2
      go_enter Tryz.func175, Tryz.ntmps175
      go_wp2_with (go_at_call 147; refine (may_any _ _).mono ?_; rintro e w' ⟨rfl, rfl⟩)
      go_ret
      exact ⟨by rw [H.out]; rfl, rfl⟩
  · have d1 : ((n : Int) % 8192 != 0) = true := by rw [bne_iff_ne]; omega
    have e : imgE n = 6 := by unfold imgE; rw [if_neg]; omega
    have H := Lib.hid e
    clear e h
    go_enter Tryz.func175, Tryz.ntmps175
    go_wp2_with (go_at_call 147; refine (may_any _ _).mono ?_; rintro e w' ⟨rfl, rfl⟩)
    go_ret
    exact ⟨by rw [H.out]; rfl, rfl⟩
set_option maxHeartbeats 1000000 in
theorem within_yes (p : Pc) (S : Int) (w : World) (s0 : 0 ≤ S) (s1 : S ≤ 1099511627776) (h : good S p) (hn : p.n ≤ maxLen) :
    Calls Tryz.prog 148 #[.agg #[.int .i64 p.at_, .slice p.A p.n p.c], .int .i64 S] w fun e w' => e = .returned (.bool true) ∧ Below w.heap.size w w' := by
  obtain ⟨a, A, n, c, z⟩ := p
  obtain ⟨h0, h1⟩ := h
  simp only at h0 h1 hn ⊢
  unfold maxLen at hn
  go_enter Tryz.func148, Tryz.ntmps148
  go_wp2
  go_ret
  exact ⟨by simp, by go_grown⟩
set_option maxHeartbeats 1000000 in
theorem within_no (p : Pc) (S : Int) (w : World) (s0 : 0 ≤ S) (s1 : S ≤ 1099511627776) (h : ¬ good S p) (hn : p.n ≤ maxLen) (ha : p.at_ ≤ 9223372036854775807) :
    Calls Tryz.prog 148 #[.agg #[.int .i64 p.at_, .slice p.A p.n p.c], .int .i64 S] w fun e w' => e = .returned (.bool false) ∧ Below w.heap.size w w' := by
  obtain ⟨a, A, n, c, z⟩ := p
  unfold good at h
  simp only at h hn ha ⊢
  unfold maxLen at hn
  by_cases h0 : 0 ≤ a
  · have d : decide ((n : Int) ≤ S - a) = false := decide_eq_false (by omega)
    clear h
    go_enter Tryz.func148, Tryz.ntmps148
    go_wp2
    go_ret
    exact ⟨by simp, by go_grown⟩
  · have d : decide (0 ≤ a) = false := decide_eq_false h0
    clear h h0
    go_enter Tryz.func148, Tryz.ntmps148
    go_wp2
    go_ret
    exact ⟨by simp, by go_grown⟩
end Go.Proofs.YtccimkmlbcgekaaGreat
