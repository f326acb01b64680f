/-
  Texts of these proofs, one behind the other: Scr5, Scr6, Scr7.
-/
import Derived.Test.YtnhnphifhkkboaaDoorKSW24
import Derived.Test.YtnhnphifhkkboaaDoorKSW08
import Derived.Test.YtnhnphifhkkboaaDoorKSW25
import Derived.RangeFuncBox
import Derived.Test.YtnhnphifhkkboaaDoorKSW23
import Derived.Maps.OwnSet
import Derived.StringKeys
namespace Go.Proofs.YtnhnphifhkkboaaDoor
open Go.RowKit Go.Shelf
set_option linter.unusedVariables false
set_option linter.unusedSimpArgs false
set_option maxRecDepth 100000
def hxB (d : Nat) (x : ByteArray) : Bool := decide ((fhA x).2 = 0 ∧ x.size = d)
theorem fhA_bd' (x : ByteArray) : 0 ≤ (fhA x).1 ∧ (fhA x).1 < 16 ^ x.size := by
  have hp : (0 : Int) < 16 ^ x.size := Int.pow_pos (by decide)
  unfold fhA
  split
  · exact ⟨Int.le_refl _, hp⟩
  · split
    · exact ⟨Int.le_refl _, hp⟩
    · unfold fhR
      split
      · have := numL_bd x.data.toList
        rwa [show x.data.toList.length = x.size from Array.length_toList] at this
      · exact ⟨Int.le_refl _, hp⟩
set_option maxHeartbeats 4000000 in
theorem schex_any (x : ByteArray) (d : Nat) (w : World) (hx : x.size ≤ 1000000) (hd : d ≤ 100) : Calls Tryd.prog 124 #[.string x, .int .i64 (d : Int)] w fun e w' => e = .returned (.tuple #[.int .u32 (fhA x).1, .bool (hxB d x)]) ∧ Below w.heap.size w w' := by
  have hF := fun W => fromhex_any x W (by unfold maxLen; omega)
  have hB : hxB d x = ((fhA x).2 == 0 && (x.size : Int) == (d : Int)) := by
    unfold hxB
    rw [Bool.eq_iff_iff]
    simp only [decide_eq_true_eq, Bool.and_eq_true, beq_iff_eq]
    omega
  rw [hB]
  obtain ⟨A, hA⟩ : ∃ A, fhA x = A := ⟨_, rfl⟩
  rw [hA] at hF ⊢
  obtain ⟨a, b⟩ := A
  dsimp only at hF ⊢
  have hs : (x.size : Int) ≤ 1000000 := by omega
  clear hA hB hx hd
  cases hb : (b == 0) with
  | false =>
    go_enter Tryd.func124, Tryd.ntmps124
    go_wp2_with (go_at_call 74; refine (hF _).mono ?_; rintro e w' ⟨rfl, hb⟩)
    go_ret2
    exact ⟨rfl, hb⟩
  | true =>
    go_enter Tryd.func124, Tryd.ntmps124
    go_wp2_with (go_at_call 74; refine (hF _).mono ?_; rintro e w' ⟨rfl, hb⟩)
    go_ret2
    exact ⟨rfl, hb⟩
/-- The bytes of words. -/
def bytesA : List ByteArray → Option (List Int)
  | [] => some []
  | x :: r => if hxB 2 x = true then (bytesA r).map ((fhA x).1 :: ·) else none
theorem bytesA_snoc : ∀ (l : List ByteArray) (ys : List Int) (x : ByteArray), bytesA l = some ys → hxB 2 x = true → bytesA (l ++ [x]) = some (ys ++ [(fhA x).1])
  | [], ys, x, h, hx => by
    injection h with h; subst h
    show bytesA [x] = _
    unfold bytesA; rw [if_pos hx]; rfl
  | y :: r, ys, x, h, hx => by
    rw [List.cons_append]
    unfold bytesA at h ⊢
    split at h
    · rename_i hy
      rw [if_pos hy]
      cases hr : bytesA r with
      | none => rw [hr] at h; cases h
      | some zs =>
        rw [hr] at h
        simp only [Option.map_some, Option.some.injEq] at h
        subst h
        rw [bytesA_snoc r zs x hr hx]
        rfl
    · cases h
theorem bytesA_none : ∀ (l : List ByteArray) (k : Nat) (x : ByteArray), l[k]? = some x → hxB 2 x = false → bytesA l = none
  | [], k, x, h, hx => by simp at h
  | y :: r, 0, x, h, hx => by
    simp at h; subst h
    unfold bytesA; rw [if_neg (by rw [hx]; decide)]
  | y :: r, k + 1, x, h, hx => by
    have ih := bytesA_none r k x (by simpa using h) hx
    unfold bytesA
    split
    · rw [ih]; rfl
    · rfl
theorem bytesA_len : ∀ (l : List ByteArray) (ys : List Int), bytesA l = some ys → ys.length = l.length
  | [], ys, h => by injection h with h; subst h; rfl
  | y :: r, ys, h => by
    unfold bytesA at h
    split at h
    · cases hr : bytesA r with
      | none => rw [hr] at h; cases h
      | some zs =>
        rw [hr] at h
        simp only [Option.map_some, Option.some.injEq] at h
        subst h
        simp [bytesA_len r zs hr]
    · cases h
theorem hx2_bd {x : ByteArray} (h : hxB 2 x = true) : 0 ≤ (fhA x).1 ∧ (fhA x).1 ≤ 255 := by
  unfold hxB at h
  simp only [decide_eq_true_eq] at h
  have := fhA_bd' x
  rw [h.2] at this
  omega
theorem scbyte_more {w : World} {B : Nat} {n : Nat} {v : Value} {xs : List Value} (h : w.ownsRow B 5 1 v n xs) (hn : n ≤ 1000000000000) (hB : B ≤ w.heap.size) (b : Int) :
    ∃ v' w', (Builtin.append_ #[22, 22] 22 #[v, .slice (some ⟨w.heap.size, 0, none⟩) 1 1]).run Tryd.prog (w.alloc (.cells #[.int .u8 b] 5)) = .ok v' w' ∧ w'.ownsRow B 5 1 v' (n + 1) (xs ++ [.int .u8 b]) ∧ (w.alloc (.cells #[.int .u8 b] 5)).grownBy w' v.ownBlock ∧ (v'.ownBlock = v.ownBlock ∨ v'.ownBlock = some (w.heap.size + 1)) := by
  obtain ⟨i, hi, hzz⟩ := Option.map_eq_some_iff.1 u8_info'
  simp only [Prod.mk.injEq] at hzz
  obtain ⟨hz, hs, hb⟩ := hzz
  obtain ⟨v', w', h1, h2, h3, _, h5⟩ := run_append_own_at (P := Tryd.prog) (w.alloc (.cells #[.int .u8 b] 5)) B 22 22 5 i (.int .u8 0) 1 1 Tryd.underlying22 hi hz hs hb rfl (by omega) v n xs (h.alloc _) ⟨w.heap.size, 0, none⟩ 1 1 [.int .u8 b] rfl
    (fun j u hu => by
      rw [add_zero_block, cell_of_row _ _ j _ 5 (0, 0) (heap_alloc_new w _)]
      simpa using hu)
    (by simp [Value.oneCell']) (by unfold maxLen; omega) (by omega) (by simp; omega)
  exact ⟨v', w', h1, h2, h3, by simpa using h5⟩
def bV (xs : List Int) : List Value := xs.map (Value.int .u8)
/-- What putting words' bytes behind a row in a field gives. -/
def MoreR (g o : Nat) (T : TypeId) (cs : Array Value) (v : Value) (B : Nat) (xs : List Int) (ws : List ByteArray) (w : World) (e : Ending) (w' : World) : Prop :=
  Kp (g :: v.ownBlock.toList) w w' ∧ ((e = .returned (.int .i64 3) ∧ (ws = [] ∨ bytesA ws = none)) ∨
    ∃ ys v', e = .returned (.int .i64 0) ∧ ws ≠ [] ∧ bytesA ws = some ys ∧ Blk w' g T (cs.setIfInBounds o v') ∧ w'.ownsRow B 5 1 v' (xs ++ ys).length (bV (xs ++ ys)) ∧ (v'.ownBlock = v.ownBlock ∨ ∃ k, v'.ownBlock = some k ∧ w.heap.size ≤ k))
theorem lst_at {α : Type} (l : List α) (k : Nat) (h : k < l.length) : l.take (k + 1) = l.take k ++ [l[k]] := List.take_succ_eq_append_getElem h
theorem own_has {w : World} {B e s n q : Nat} {v : Value} {xs : List Value} (own : w.ownsRow B e s v n xs) (h : v.ownBlock = some q) : B ≤ q ∧ ∃ cs, Blk w q e cs := by
  rcases own.2 with ⟨rfl, _⟩ | ⟨g, cap, cur, rfl, hg, hh, _⟩
  · cases h
  · injection h with h; subst h; exact ⟨hg, cur, hh⟩
theorem own_kp {w w' : World} {B e s n : Nat} {v : Value} {xs : List Value} {L : List Nat} (own : w.ownsRow B e s v n xs) (k : Kp L w w') (h : ∀ q, v.ownBlock = some q → q ∉ L) : w'.ownsRow B e s v n xs := by
  refine ⟨own.1, ?_⟩
  rcases own.2 with h0 | ⟨g, cap, cur, rfl, hg, hh, rest⟩
  · exact Or.inl h0
  · refine Or.inr ⟨g, cap, cur, rfl, hg, ?_, rest⟩
    have hl : g < w.heap.size := (Array.getElem?_eq_some_iff.1 hh).1
    rw [k.block g hl (h g rfl)]; exact hh
set_option maxHeartbeats 8000000 in
theorem scmore_any {w : World} {g o : Nat} {T : TypeId} {cs : Array Value} {v : Value} {B : Nat} {xs : List Int} (hg : Blk w g T cs) (ho : cs[o]? = some v) (hT : T ≠ 5) (own : w.ownsRow B 5 1 v xs.length (bV xs)) (hB : B ≤ w.heap.size)
    (ws : List ByteArray) (A : Option Addr) (c : Nat) (hc : ws.length ≤ c) (HS : SRow w A ws) (HT : Typed w A 9) (hTs : T ≠ 9) (hsz : ∀ x ∈ ws, x.size ≤ 1000000) (hlen : xs.length + ws.length ≤ 200000000000) :
    Calls Tryd.prog 96 #[.pointer (some ⟨g, o, none⟩), .slice A ws.length c] w fun e w' => MoreR g o T cs v B xs ws w e w' := by
  obtain ⟨n, hn⟩ : ∃ n, ws.length = n := ⟨_, rfl⟩
  rw [hn] at hc ⊢
  by_cases h0 : n = 0
  · subst h0
    have : ws = [] := List.length_eq_zero_iff.1 hn
    subst this
    clear hlen hsz HS HT
    go_enter Tryd.func96, Tryd.ntmps96
    go_wp2_with fail
    go_ret
    exact ⟨Kp.refl _ _, Or.inl ⟨rfl, Or.inl rfl⟩⟩
  · have e0 : ((n : Int) == 0) = false := by rw [beq_eq_false_iff_ne]; omega
    have hwne : ws ≠ [] := fun e => by subst e; exact h0 hn.symm
    clear h0
    go_enter Tryd.func96, Tryd.ntmps96
    go_wp2_with fail
    go_loopw [14] (fun i wr => ∃ (k : Nat) (ys : List Int) (v' : Value), k ≤ n ∧ i = .int .i64 (k : Int) ∧ bytesA (ws.take k) = some ys ∧ Blk wr g T (cs.setIfInBounds o v') ∧ wr.ownsRow B 5 1 v' (xs ++ ys).length (bV (xs ++ ys)) ∧
      (v'.ownBlock = v.ownBlock ∨ ∃ k, v'.ownBlock = some k ∧ w.heap.size ≤ k) ∧ Kp (g :: v.ownBlock.toList) w wr) (fun i _ => n - (intOf i).toNat)
    case atStart =>
      refine ⟨0, [], v, by omega, rfl, rfl, ?_, by simpa using own, Or.inl rfl, Kp.refl _ _⟩
      rw [show cs.setIfInBounds o v = cs by
        apply Array.ext_getElem?
        intro i
        rw [Array.getElem?_setIfInBounds]
        split
        · rename_i h; subst h
          split
          · rw [ho]
          · rename_i h2; rw [Array.getElem?_eq_none (by omega)]
        · rfl]
      exact hg
    case round =>
      obtain ⟨k, ys, v1, hk, rfl, hys, hb, own1, hv, hK⟩ := hrel
      by_cases hlt : k < n
      · have hkl : k < ws.length := by omega
        obtain ⟨x, hx⟩ : ∃ x, ws[k] = x := ⟨_, rfl⟩
        have hxk : ws[k]? = some x := by rw [← hx]; exact List.getElem?_eq_getElem hkl
        have hxs : x.size ≤ 1000000 := hsz x (List.mem_of_getElem? hxk)
        have hoff : ∀ ad, A = some ad → ad.block ∉ g :: v.ownBlock.toList := HT.off (by
          intro q hq
          rcases List.mem_cons.1 hq with rfl | hq
          · exact ⟨T, cs, hg, hTs.symm⟩
          · obtain ⟨_, cc, hcc⟩ := own_has own (by simpa using hq)
            exact ⟨_, cc, hcc, by decide⟩)
        obtain ⟨ad, rfl, _, hcx⟩ := (HS.kp hK hoff) k x hxk
        have hH := fun W => schex_any x 2 W hxs (by decide)
        have hylen : ys.length = k := by
          have := bytesA_len _ _ hys; rw [List.length_take] at this; omega
        have htk : ws.take (k + 1) = ws.take k ++ [x] := by rw [lst_at ws k hkl, hx]
        cases hb2 : hxB 2 x with
        | false =>
          rw [hb2] at hH
          have hno := Lib.hid (bytesA_none ws k x hxk hb2)
          have HK := Lib.hid hK
          clear hys hb own1 hv hK own hg ho hoff HS HT hlen htk hxk hx hylen
          go_wp2_with fail
          refine (hH _).mono ?_
          rintro e w1 ⟨rfl, b1⟩
          have HK1 := Lib.hid (HK.out.trans (Kp.of_below (L := []) b1) (by simp))
          clear b1 hH
          go_wp2_with fail
          go_ret
          exact ⟨HK1.out, Or.inl ⟨rfl, Or.inr hno.out⟩⟩
        | true =>
          rw [hb2] at hH
          have hyes := Lib.hid (bytesA_snoc _ _ x hys hb2)
          rw [← htk] at hyes
          have hbd := hx2_bd hb2
          have e8 : IntKind.u8.wrap (fhA x).1 = (fhA x).1 := IntWalk.u8_in _ (by omega)
          obtain ⟨z, hz⟩ : ∃ z, (fhA x).1 = z := ⟨_, rfl⟩
          rw [hz] at hH hyes hbd e8
          have HK := Lib.hid hK
          have HB1 := Lib.hid hb
          have HO1 := Lib.hid own1
          have HV := Lib.hid hv
          have HG := Lib.hid (And.intro hg own)
          clear hys hb own1 hv hK own hg hoff HS HT htk hxk hx hz
          go_wp2_with fail
          refine (hH _).mono ?_
          rintro e w1 ⟨rfl, b1⟩
          have HK1 := HK.out.trans (Kp.of_below (L := []) b1) (by simp)
          have hb1 := HB1.out.kp (Kp.of_below (L := []) b1) (by simp)
          have own1 := own_kp HO1.out (Kp.of_below (L := []) b1) (by simp)
          have hBw : B ≤ w1.heap.size := Nat.le_trans hB HK1.size
          have hn1 : (xs ++ ys).length ≤ 1000000000000 := by rw [List.length_append]; omega
          obtain ⟨v2, w2, hrun, own2, gb, hv2⟩ := scbyte_more own1 hn1 hBw z
          obtain ⟨gq, capq, hV2⟩ := ownsRow_succ own2
          obtain ⟨V2, hV3⟩ : ∃ V, v2 = V := ⟨_, rfl⟩
          rw [hV3] at own2 hv2 hrun hV2
          have gne : ∀ q, v1.ownBlock = some q → g ≠ q := fun q hq => by
            obtain ⟨_, cc, hcc⟩ := own_has own1 hq
            exact hb1.ne_ hcc hT
          have kp2 : Kp v1.ownBlock.toList (w1.alloc (.cells #[.int .u8 z] 5)) w2 := Kp.of_grown gb (fun q hq => by simpa using hq)
          have hb2 : Blk w2 g T (cs.setIfInBounds o v1) := (hb1.alloc _).kp kp2 (fun h => gne g (by simpa using h) rfl)
          have c1 : w1.cell? ⟨g, o, none⟩ = some v1 := by
            rw [hb1.cell o, Array.getElem?_setIfInBounds, if_pos rfl, if_pos (by have := (Array.getElem?_eq_some_iff.1 ho).1; omega)]
          have c2 : w2.cell? ⟨g, o, none⟩ = some v1 := by
            rw [hb2.cell o, Array.getElem?_setIfInBounds, if_pos rfl, if_pos (by have := (Array.getElem?_eq_some_iff.1 ho).1; omega)]
          have f2 : w2.frozen? ⟨g, o, none⟩ = false := hb2.frozen o
          have g2 : ∀ q, V2.ownBlock = some q → q ∉ [g] := fun q hq h => by
            obtain ⟨_, cc, hcc⟩ := own_has own2 hq
            have : q = g := by simpa using h
            subst this
            exact hb2.ne_ hcc hT rfl
          have KW : Hid (Kp (g :: v.ownBlock.toList) w (w2.setCell ⟨g, o, none⟩ V2)) := Lib.hid (((HK1.alloc _).trans kp2 (fun q hq => by
            rcases HV.out with h | ⟨q', h, hl⟩
            · rw [h] at hq; exact Or.inl (List.mem_cons_of_mem _ hq)
            · rw [h] at hq
              have : q = q' := by simpa using hq
              subst this; exact Or.inr hl)).setCell (Or.inl (by simp)) _)
          have BW : Hid (Blk (w2.setCell ⟨g, o, none⟩ V2) g T (cs.setIfInBounds o V2)) := Lib.hid (by
            have := hb2.set_ o V2
            rwa [Array.setIfInBounds_setIfInBounds] at this)
          have OW : Hid ((w2.setCell ⟨g, o, none⟩ V2).ownsRow B 5 1 V2 (xs ++ (ys ++ [z])).length (bV (xs ++ (ys ++ [z])))) := Lib.hid (by
            have h := own_kp own2 ((Kp.refl [g] w2).setCell (p := ⟨g, o, none⟩) (Or.inl (by simp)) V2) g2
            have e1 : (xs ++ (ys ++ [z])).length = (xs ++ ys).length + 1 := by simp; omega
            have e2 : bV (xs ++ (ys ++ [z])) = bV (xs ++ ys) ++ [.int .u8 z] := by unfold bV; rw [← List.append_assoc, List.map_append]; rfl
            rw [e1, e2]; exact h)
          have VW : Hid (V2.ownBlock = v.ownBlock ∨ ∃ k, V2.ownBlock = some k ∧ w.heap.size ≤ k) := Lib.hid (by
            rcases hv2 with h | h
            · rw [h]; exact HV.out
            · exact Or.inr ⟨_, h, by have := HK1.size; omega⟩)
          obtain ⟨nq, hnq⟩ : ∃ m, (xs ++ ys).length + 1 = m := ⟨_, rfl⟩
          rw [hnq] at hV2
          subst hV2
          clear hnq hV3 own1 own2 gb hv2 gne kp2 hb1 hb2 g2 HK1 b1 hH hBw hn1 HB1 HO1
          go_wp2_with (at_builtin; refine wpList_append_run rfl (.tmp 28) (.tmp 31) 22 rfl rfl rfl hrun ?_)
          go_roundw
          case rel => exact ⟨k + 1, ys ++ [z], _, by omega, by go_num, hyes.out, BW.out, OW.out, VW.out, KW.out⟩
          case measure => simp [intOf]; omega
      · obtain rfl : k = n := by omega
        rw [List.take_of_length_le (by omega)] at hys
        have H := Lib.hid (And.intro hK (And.intro hys (And.intro hb (And.intro own1 hv))))
        clear hys hb own1 hv hK own hg HS HT
        go_wp2_with fail
        go_ret
        obtain ⟨h1, h2, h3, h4, h5⟩ := H.out
        exact ⟨h1, Or.inr ⟨ys, v1, rfl, hwne, h2, h3, h4, h5⟩⟩
end Go.Proofs.YtnhnphifhkkboaaDoor
namespace Go.Proofs.YtnhnphifhkkboaaDoor
open Go.RowKit Go.Shelf Go.ChangeShapes Go.WideShapes
set_option linter.unusedVariables false
set_option linter.unusedSimpArgs false
set_option maxRecDepth 100000
/-- What lines told. -/
structure Td where
  pg : Option Int
  bg : Option Int
  rom : List (Int × List Int)
  vdc : List Int
  vce : List Int
  port : List Int
  edges : List Iib
def td0 : Td := ⟨none, none, [], [], [], [], []⟩
def eqB (x : ByteArray) (l : List UInt8) : Bool := x.toList == l
def numT (p : Bool) (rest : List ByteArray) (td : Td) : Int × Td := match rest with
  | [x] => if (numP x).2 ≠ 0 then (3, td) else if p = true ∧ ((numP x).1 < 1 ∨ 128 < (numP x).1) then (6, td)
    else if (if p then td.pg else td.bg).isSome then (11, td) else (0, if p then { td with pg := some (numP x).1 } else { td with bg := some (numP x).1 })
  | _ => (3, td)
def pieceT (rest : List ByteArray) (td : Td) : Int × Td := match rest with
  | [] => (3, td)
  | x :: r => if hxB 6 x = true then (match r, bytesA r with
    | _ :: _, some ys => (0, { td with rom := td.rom ++ [((fhA x).1, ys)] })
    | _, _ => (3, td)) else (3, td)
def nameI (x : ByteArray) : Option Nat :=
  if eqB x [114, 101, 115, 101, 116] then some 0 else if eqB x [110, 109, 105] then some 1 else if eqB x [105, 114, 113, 49] then some 2 else if eqB x [105, 114, 113, 50] then some 3 else none
def edgeT (up : Bool) (rest : List ByteArray) (td : Td) : Int × Td := match rest with
  | [x, y] => if (numP x).2 ≠ 0 then (3, td) else match nameI y with
    | none => (8, td)
    | some i => (0, { td with edges := td.edges ++ [⟨(numP x).1, (i : Int), up⟩] })
  | _ => (3, td)
/-- Bytes of a feed: which (0 vdc, 1 vce, 2 port). -/
def feedT (k : Nat) (rest : List ByteArray) (td : Td) : Int × Td := match rest, bytesA rest with
  | _ :: _, some ys => (0, if k = 0 then { td with vdc := td.vdc ++ ys } else if k = 1 then { td with vce := td.vce ++ ys } else { td with port := td.port ++ ys })
  | _, _ => (3, td)
def take1 (ws : List ByteArray) (td : Td) : Int × Td := match ws with
  | [] => (0, td)
  | f :: r => if eqB f [112, 97, 103, 101, 115] then numT true r td else if eqB f [98, 117, 100, 103, 101, 116] then numT false r td else if eqB f [114, 111, 109] then pieceT r td
    else if eqB f [118, 100, 99] then feedT 0 r td else if eqB f [118, 99, 101] then feedT 1 r td else if eqB f [112, 111, 114, 116] then feedT 2 r td
    else if eqB f [117, 112] then edgeT true r td else if eqB f [100, 111, 119, 110] then edgeT false r td else (10, td)
abbrev SH : Value → Option (DataW Value × List MemPlace) := fun v => some (.held v, [])
def pgK : ByteArray := ⟨#[112, 97, 103, 101, 115]⟩
def bgK : ByteArray := ⟨#[98, 117, 100, 103, 101, 116]⟩
def pgL : Lit := .string [112, 97, 103, 101, 115]
def bgL : Lit := .string [98, 117, 100, 103, 101, 116]
def MPd (D : DataW Value) (pg bg : Option Int) : Prop :=
  D.atKey pgL (.held (.int .i64 0)) = .held (.int .i64 (pg.getD 0)) ∧ Maps.has D pgL = pg.isSome ∧ D.atKey bgL (.held (.int .i64 0)) = .held (.int .i64 (bg.getD 0)) ∧ Maps.has D bgL = bg.isSome ∧
  Maps.size D = (if pg.isSome then 1 else 0) + (if bg.isSome then 1 else 0)
theorem skeyed : Maps.Keyed Tryd.prog 9 := Maps.string_keyed Tryd.underlying9
theorem pgkey : keyOf Tryd.prog 9 (.string pgK) = some pgL := Go.WideMaps.keyOf_string_mk Tryd.underlying9 (by decide)
theorem bgkey : keyOf Tryd.prog 9 (.string bgK) = some bgL := Go.WideMaps.keyOf_string_mk Tryd.underlying9 (by decide)
theorem pglit : WideAt.IsKeyLit pgL := by first | trivial | exact ⟨⟩ | simp [WideAt.IsKeyLit, pgL]
theorem bglit : WideAt.IsKeyLit bgL := by first | trivial | exact ⟨⟩ | simp [WideAt.IsKeyLit, bgL]
theorem pb_ne : pgL ≠ bgL := by intro e; injection e with e; revert e; decide
theorem MPd.zero : MPd (.map []) none none := ⟨Maps.atKey_of_not_has rfl _, rfl, Maps.atKey_of_not_has rfl _, rfl, rfl⟩
theorem MPd.putP {w : World} {b m : Nat} {D : DataW Value} {bg : Option Int} (ho : w.ownsMap Tryd.prog 9 SH b m D) (h : MPd D none bg) (n : Int) : MPd (D.put pgL (.held (.int .i64 n))) (some n) bg := by
  have hi := ho.isMap
  refine ⟨by rw [Maps.atKey_put_same hi pglit]; rfl, by rw [Maps.has_put_same hi pglit]; rfl, by rw [Maps.atKey_put_other pb_ne.symm, h.2.2.1], by rw [Maps.has_put_other pb_ne.symm, h.2.2.2.1], ?_⟩
  rw [Maps.size_put (ho.tidy skeyed), h.2.1, h.2.2.2.2]
  cases bg <;> rfl
theorem MPd.putB {w : World} {b m : Nat} {D : DataW Value} {pg : Option Int} (ho : w.ownsMap Tryd.prog 9 SH b m D) (h : MPd D pg none) (n : Int) : MPd (D.put bgL (.held (.int .i64 n))) pg (some n) := by
  have hi := ho.isMap
  refine ⟨by rw [Maps.atKey_put_other pb_ne, h.1], by rw [Maps.has_put_other pb_ne, h.2.1], by rw [Maps.atKey_put_same hi bglit]; rfl, by rw [Maps.has_put_same hi bglit]; rfl, ?_⟩
  rw [Maps.size_put (ho.tidy skeyed), h.2.2.2.1, h.2.2.2.2]
  cases pg <;> rfl
theorem MPd.size_le {D : DataW Value} {pg bg : Option Int} (h : MPd D pg bg) : Maps.size D ≤ 2 := by
  rw [h.2.2.2.2]; split <;> split <;> omega
/-- As many entries as it has. -/
theorem MPd.tight {w : World} {b m : Nat} {D : DataW Value} {pg bg : Option Int} (ho : w.ownsMap Tryd.prog 9 SH b m D) (h : MPd D pg bg) : w.ownsMap Tryd.prog 9 SH b 2 D := by
  obtain ⟨es, clock, h1, h2, h3, h4⟩ := ho
  refine ⟨es, clock, h1, h2, ?_, h4⟩
  have hl : Maps.size D = es.size := by rw [h4, Maps.size_eq, length_read]
  rw [← hl]; exact h.size_le
theorem zero_i64 (w : World) : (zeroValue 2).run Tryd.prog w = .ok (.int .i64 0) w := (zero_of_info (by kernel_rfl : (Tryd.prog.info? 2).map (fun i => (i.zero, i.size)) = some (some (.int .i64 0), 1))).1 w
theorem smap_kp {w w' : World} {b m : Nat} {D : DataW Value} {L : List Nat} (h : w.ownsMap Tryd.prog 9 SH b m D) (k : Kp L w w') (hb : b ∉ L) : w'.ownsMap Tryd.prog 9 SH b m D := by
  have hl := h.lt
  obtain ⟨es, clock, h1, h2⟩ := h
  exact ⟨es, clock, by rw [k.block b hl hb]; exact h1, h2⟩
end Go.Proofs.YtnhnphifhkkboaaDoor
namespace Go.Proofs.YtnhnphifhkkboaaDoor
open Go.RowKit Go.Shelf
set_option linter.unusedVariables false
set_option linter.unusedSimpArgs false
set_option maxRecDepth 100000
def edC (p : Iib) : List Value := [.int .i64 p.a, .int .u8 p.b, .bool p.c]
def pcC (p : Int × Value × List Int) : List Value := [.int .i64 p.1, p.2.1]
/-- The blocks that a row, or what was told, may have written. -/
def tdL (g mb : Nat) (vP vV vC vR vE : Value) : List Nat := g :: mb :: (vP.ownBlock.toList ++ vV.ownBlock.toList ++ vC.ownBlock.toList ++ vR.ownBlock.toList ++ vE.ownBlock.toList)
structure TdH (B g mb : Nat) (td : Td) (vP vV vC vR vE : Value) (w : World) : Prop where
  blk : Blk w g 84 #[.map (some mb), vP, vV, vC, vR, vE]
  gB : B ≤ g
  mB : B ≤ mb
  map : ∃ D, w.ownsMap Tryd.prog 9 SH mb 2 D ∧ MPd D td.pg td.bg
  rom : ∃ ps : List (Int × Value × List Int), td.rom = ps.map (fun p => (p.1, p.2.2)) ∧ w.ownsRow B 108 2 vP ps.length (ps.flatMap pcC) ∧ (∀ p ∈ ps, w.ownsRow B 5 1 p.2.1 p.2.2.length (bV p.2.2)) ∧
    ∀ p ∈ ps, ∀ q, p.2.1.ownBlock = some q → vV.ownBlock ≠ some q ∧ vC.ownBlock ≠ some q ∧ vR.ownBlock ≠ some q
  rv : w.ownsRow B 5 1 vV td.vdc.length (bV td.vdc)
  rc : w.ownsRow B 5 1 vC td.vce.length (bV td.vce)
  rr : w.ownsRow B 5 1 vR td.port.length (bV td.port)
  re : w.ownsRow B 31 3 vE td.edges.length (td.edges.flatMap edC)
  d1 : ∀ q, vV.ownBlock = some q → vC.ownBlock ≠ some q ∧ vR.ownBlock ≠ some q
  d2 : ∀ q, vC.ownBlock = some q → vR.ownBlock ≠ some q
section
variable {B g mb : Nat} {td : Td} {vP vV vC vR vE : Value} {w w' : World} {L : List Nat}
theorem mem_tdL {x : Nat} : x ∈ tdL g mb vP vV vC vR vE ↔ x = g ∨ x = mb ∨ vP.ownBlock = some x ∨ vV.ownBlock = some x ∨ vC.ownBlock = some x ∨ vR.ownBlock = some x ∨ vE.ownBlock = some x := by
  simp [tdL]
theorem blk_not_map {w : World} {u mb m : Nat} {T k : TypeId} {cs : Array Value} {D : DataW Value} (h : Blk w u T cs) (ho : w.ownsMap Tryd.prog k SH mb m D) : u ≠ mb := fun e => by
  subst e
  obtain ⟨es, clock, h1, _⟩ := ho
  have h2 : w.heap[u]? = some (.cells cs T (0, 0)) := h
  rw [h1] at h2; cases h2
/-- Blocks of other types are none of these. -/
theorem TdH.off (h : TdH B g mb td vP vV vC vR vE w) {u : Nat} {T : TypeId} {cs : Array Value} (hb : Blk w u T cs) (h1 : T ≠ 84) (h2 : T ≠ 5) (h3 : T ≠ 108) (h4 : T ≠ 31) : u ∉ tdL g mb vP vV vC vR vE := fun hm => by
  obtain ⟨D, hD, _⟩ := h.map
  obtain ⟨ps, _, hp, _⟩ := h.rom
  rcases mem_tdL.1 hm with rfl | rfl | e | e | e | e | e
  · exact hb.ne_ h.blk h1 rfl
  · exact blk_not_map hb hD rfl
  · obtain ⟨_, c, hc⟩ := own_has hp e; exact hb.ne_ hc h3 rfl
  · obtain ⟨_, c, hc⟩ := own_has h.rv e; exact hb.ne_ hc h2 rfl
  · obtain ⟨_, c, hc⟩ := own_has h.rc e; exact hb.ne_ hc h2 rfl
  · obtain ⟨_, c, hc⟩ := own_has h.rr e; exact hb.ne_ hc h2 rfl
  · obtain ⟨_, c, hc⟩ := own_has h.re e; exact hb.ne_ hc h4 rfl
theorem TdH.ge (h : TdH B g mb td vP vV vC vR vE w) : ∀ x ∈ tdL g mb vP vV vC vR vE, B ≤ x := fun x hm => by
  obtain ⟨ps, _, hp, _⟩ := h.rom
  rcases mem_tdL.1 hm with rfl | rfl | e | e | e | e | e
  · exact h.gB
  · exact h.mB
  · exact (own_has hp e).1
  · exact (own_has h.rv e).1
  · exact (own_has h.rc e).1
  · exact (own_has h.rr e).1
  · exact (own_has h.re e).1
/-- Kept by what makes memory alone, and by what writes other blocks. -/
theorem TdH.kp (h : TdH B g mb td vP vV vC vR vE w) (k : Kp L w w') (hT : ∀ x ∈ L, ∃ T cs, Blk w x T cs ∧ T ≠ 84 ∧ T ≠ 5 ∧ T ≠ 108 ∧ T ≠ 31) : TdH B g mb td vP vV vC vR vE w' := by
  have no : ∀ x, x ∈ tdL g mb vP vV vC vR vE → x ∉ L := fun x hx hL => by
    obtain ⟨T, cs, hb, h1, h2, h3, h4⟩ := hT x hL
    exact h.off hb h1 h2 h3 h4 hx
  obtain ⟨D, hD, hM⟩ := h.map
  obtain ⟨ps, e1, e2, e3, e4⟩ := h.rom
  exact {
    blk := h.blk.kp k (no g (mem_tdL.2 (Or.inl rfl)))
    gB := h.gB
    mB := h.mB
    map := ⟨D, smap_kp hD k (no mb (mem_tdL.2 (Or.inr (Or.inl rfl)))), hM⟩
    rom := ⟨ps, e1, own_kp e2 k (fun q hq => no q (mem_tdL.2 (Or.inr (Or.inr (Or.inl hq))))), fun p hp => own_kp (e3 p hp) k (fun q hq hL => by
      obtain ⟨T, cs, hb, h1, h2, h3, h4⟩ := hT q hL
      obtain ⟨_, c, hc⟩ := own_has (e3 p hp) hq
      exact hb.ne_ hc h2 rfl), e4⟩
    rv := own_kp h.rv k (fun q hq => no q (mem_tdL.2 (by simp [hq])))
    rc := own_kp h.rc k (fun q hq => no q (mem_tdL.2 (by simp [hq])))
    rr := own_kp h.rr k (fun q hq => no q (mem_tdL.2 (by simp [hq])))
    re := own_kp h.re k (fun q hq => no q (mem_tdL.2 (by simp [hq])))
    d1 := h.d1
    d2 := h.d2 }
theorem TdH.below (h : TdH B g mb td vP vV vC vR vE w) (k : Below w.heap.size w w') : TdH B g mb td vP vV vC vR vE w' := h.kp (L := []) (Kp.of_below k) (by simp)
end
theorem own_not_map {w : World} {B e s n mb m : Nat} {v : Value} {xs : List Value} {k : TypeId} {D : DataW Value} (own : w.ownsRow B e s v n xs) (ho : w.ownsMap Tryd.prog k SH mb m D) : ∀ q, v.ownBlock = some q → q ∉ [mb] := fun q hq hL => by
  obtain ⟨_, c, hc⟩ := own_has own hq
  exact blk_not_map hc ho (by simpa using hL)
/-- The map alone was written. -/
theorem TdH.setMap {B g mb m : Nat} {td : Td} {vP vV vC vR vE : Value} {w w' : World} (h : TdH B g mb td vP vV vC vR vE w) {D' : DataW Value} (gb : w.grownBy w' (some mb)) (ho : w'.ownsMap Tryd.prog 9 SH mb m D') {pg bg : Option Int} (hM : MPd D' pg bg) :
    TdH B g mb { td with pg := pg, bg := bg } vP vV vC vR vE w' := by
  obtain ⟨D, hD, _⟩ := h.map
  obtain ⟨ps, e1, e2, e3, e4⟩ := h.rom
  have k : Kp [mb] w w' := Kp.of_grown gb (fun q hq => by injection hq with hq; subst hq; simp)
  exact {
    blk := h.blk.kp k (fun hL => blk_not_map h.blk hD (by simpa using hL))
    gB := h.gB
    mB := h.mB
    map := ⟨D', hM.tight ho, hM⟩
    rom := ⟨ps, e1, own_kp e2 k (own_not_map e2 hD), fun p hp => own_kp (e3 p hp) k (own_not_map (e3 p hp) hD), e4⟩
    rv := own_kp h.rv k (own_not_map h.rv hD)
    rc := own_kp h.rc k (own_not_map h.rc hD)
    rr := own_kp h.rr k (own_not_map h.rr hD)
    re := own_kp h.re k (own_not_map h.re hD)
    d1 := h.d1
    d2 := h.d2 }
/-- What a call that takes a line gives. -/
def TakeR (B g mb : Nat) (L : List Nat) (r : Int × Td) (w : World) (e : Ending) (w' : World) : Prop :=
  e = .returned (.int .i64 r.1) ∧ Kp L w w' ∧ (r.1 = 0 → ∃ vP vV vC vR vE, TdH B g mb r.2 vP vV vC vR vE w' ∧ ∀ x ∈ tdL g mb vP vV vC vR vE, x ∈ L ∨ w.heap.size ≤ x)
theorem srow_one {w : World} {A : Option Addr} {x : ByteArray} {r : List ByteArray} (h : SRow w A (x :: r)) : ∃ ad, A = some ad ∧ w.cell? ad = some (.string x) := by
  obtain ⟨ad, e, _, hc⟩ := h 0 x rfl
  exact ⟨ad, e, hc⟩
set_option maxHeartbeats 8000000 in
theorem scnumber1_any {B g mb : Nat} {td : Td} {vP vV vC vR vE : Value} {w : World} (h : TdH B g mb td vP vV vC vR vE w) (p : Bool) (rest : List ByteArray) (A : Option Addr) (c : Nat) (hc : rest.length ≤ c) (HS : SRow w A rest) (hsz : ∀ x ∈ rest, x.size ≤ 1000000) :
    Calls Tryd.prog 94 #[.pointer (some ⟨g, 0, none⟩), .string (if p then pgK else bgK), .slice A rest.length c] w fun e w' => TakeR B g mb (tdL g mb vP vV vC vR vE) (numT p rest td) w e w' := by
  have bad : ∀ (n : Int), n ≠ 0 → TakeR B g mb (tdL g mb vP vV vC vR vE) (n, td) w (.returned (.int .i64 n)) w := fun n hn => ⟨rfl, Kp.refl _ _, fun e => absurd e hn⟩
  have HBAD := Lib.hid bad
  clear bad
  have hne : rest.length ≠ 1 → numT p rest td = (3, td) := fun h => by
    match rest, h with
    | [], _ => rfl
    | [x], h => exact absurd rfl h
    | x :: y :: r, _ => rfl
  by_cases h1 : rest.length = 1
  · obtain ⟨x, rfl⟩ := List.length_eq_one_iff.1 h1
    obtain ⟨ad, rfl, hcx⟩ := srow_one HS
    have hxs := hsz x (by simp)
    have hN := fun W => scnumber_any x W (by unfold maxLen; omega)
    have hT : numT p [x] td = if (numP x).2 ≠ 0 then (3, td) else if p = true ∧ ((numP x).1 < 1 ∨ 128 < (numP x).1) then (6, td)
      else if (if p then td.pg else td.bg).isSome then (11, td) else (0, if p then { td with pg := some (numP x).1 } else { td with bg := some (numP x).1 }) := rfl
    clear hne h1 HS hsz
    obtain ⟨N, hNN⟩ : ∃ N, numP x = N := ⟨_, rfl⟩
    rw [hNN] at hN hT
    obtain ⟨n, e⟩ := N
    dsimp only at hN hT
    clear hNN
    have hlen1 : [x].length = 1 := rfl
    rw [hlen1] at hc ⊢
    clear hlen1
    by_cases he : e = 0
    · subst he
      rw [if_neg (by simp)] at hT
      by_cases hbad : p = true ∧ (n < 1 ∨ 128 < n)
      · obtain ⟨rfl, hb⟩ := hbad
        rw [if_pos ⟨rfl, hb⟩] at hT
        rw [hT, if_pos (rfl : true = true)]
        clear hT
        have H6 := Lib.hid (HBAD.out 6 (by decide))
        clear HBAD h
        unfold pgK
        rcases hb with hb | hb
        all_goals (
          have hb' : (n < 1 ∨ 128 < n) := by omega
          go_enter Tryd.func94, Tryd.ntmps94
          go_wp2_with (go_at_call 22; refine (hN _).mono ?_; rintro e w' ⟨rfl, rfl⟩)
          all_goals (go_ret; exact H6.out))
      · rw [if_neg hbad] at hT
        rw [hT]
        clear hT
        obtain ⟨D, hD, hM⟩ := h.map
        have c0 : w.cell? ⟨g, 0, none⟩ = some (.map (some mb)) := h.blk.cell 0
        have hmaplt : 2 < maxLen := by unfold maxLen; omega
        cases p with
        | true =>
          have n1 : ¬ n < 1 := fun hh => hbad ⟨rfl, Or.inl hh⟩
          have n2 : ¬ 128 < n := fun hh => hbad ⟨rfl, Or.inr hh⟩
          simp only [if_true]
          obtain ⟨v, ps, hlk, hR⟩ := hD.look_ok skeyed Tryd.underlying81 (zero_i64 w) (zd := .held (.int .i64 0)) (zp := []) rfl pgkey
          rw [hM.1] at hR
          rw [hM.2.1] at hlk
          simp only [SH, Option.some.injEq, Prod.mk.injEq, DataW.held.injEq] at hR
          rw [hR.1] at hlk
          cases hpg : td.pg with
          | some m =>
            rw [hpg] at hlk
            simp only [Option.isSome_some, Option.getD_some] at hlk
            simp only [Option.isSome_some, if_true]
            have H11 := Lib.hid (HBAD.out 11 (by decide))
            clear HBAD hD hM h hR hbad
            unfold pgK at hlk ⊢
            go_enter Tryd.func94, Tryd.ntmps94
            go_wp2_with (go_at_call 22; refine (hN _).mono ?_; rintro e w' ⟨rfl, rfl⟩)
            all_goals (go_ret; exact H11.out)
          | none =>
            rw [hpg] at hlk hM
            simp only [Option.isSome_none, Option.getD_none] at hlk
            simp only [Option.isSome_none, if_false, Bool.false_eq_true]
            obtain ⟨w2, hrun, hD2, gb⟩ := hD.update skeyed Tryd.underlying81 hmaplt pgkey (val := .int .i64 n) (d := .held (.int .i64 n)) (ps := []) rfl
            have HW : Hid (TakeR B g mb (tdL g mb vP vV vC vR vE) (0, { td with pg := some n }) w (.returned (.int .i64 0)) w2) := Lib.hid ⟨rfl, (Kp.of_grown gb (fun q hq => by injection hq with hq; subst hq; exact mem_tdL.2 (Or.inr (Or.inl rfl)))), fun _ => ⟨vP, vV, vC, vR, vE, h.setMap gb hD2 (MPd.putP hD hM n), fun x hx => Or.inl hx⟩⟩
            clear HBAD hD hM h hR hbad hD2 gb
            unfold pgK at hlk hrun ⊢
            go_enter Tryd.func94, Tryd.ntmps94
            go_wp2_with (go_at_call 22; refine (hN _).mono ?_; rintro e w' ⟨rfl, rfl⟩)
            all_goals (go_ret; exact HW.out)
        | false =>
          simp only [Bool.false_eq_true, if_false]
          obtain ⟨v, ps, hlk, hR⟩ := hD.look_ok skeyed Tryd.underlying81 (zero_i64 w) (zd := .held (.int .i64 0)) (zp := []) rfl bgkey
          rw [hM.2.2.1] at hR
          rw [hM.2.2.2.1] at hlk
          simp only [SH, Option.some.injEq, Prod.mk.injEq, DataW.held.injEq] at hR
          rw [hR.1] at hlk
          cases hbg : td.bg with
          | some m =>
            rw [hbg] at hlk
            simp only [Option.isSome_some, Option.getD_some] at hlk
            simp only [Option.isSome_some, if_true]
            have H11 := Lib.hid (HBAD.out 11 (by decide))
            clear HBAD hD hM h hR hbad
            unfold bgK at hlk ⊢
            go_enter Tryd.func94, Tryd.ntmps94
            go_wp2_with (go_at_call 22; refine (hN _).mono ?_; rintro e w' ⟨rfl, rfl⟩)
            all_goals (go_ret; exact H11.out)
          | none =>
            rw [hbg] at hlk hM
            simp only [Option.isSome_none, Option.getD_none] at hlk
            simp only [Option.isSome_none, if_false, Bool.false_eq_true]
            obtain ⟨w2, hrun, hD2, gb⟩ := hD.update skeyed Tryd.underlying81 hmaplt bgkey (val := .int .i64 n) (d := .held (.int .i64 n)) (ps := []) rfl
            have HW : Hid (TakeR B g mb (tdL g mb vP vV vC vR vE) (0, { td with bg := some n }) w (.returned (.int .i64 0)) w2) := Lib.hid ⟨rfl, (Kp.of_grown gb (fun q hq => by injection hq with hq; subst hq; exact mem_tdL.2 (Or.inr (Or.inl rfl)))), fun _ => ⟨vP, vV, vC, vR, vE, h.setMap gb hD2 (MPd.putB hD hM n), fun x hx => Or.inl hx⟩⟩
            clear HBAD hD hM h hR hbad hD2 gb
            unfold bgK at hlk hrun ⊢
            go_enter Tryd.func94, Tryd.ntmps94
            go_wp2_with (go_at_call 22; refine (hN _).mono ?_; rintro e w' ⟨rfl, rfl⟩)
            all_goals (go_ret; exact HW.out)
    · rw [if_pos he] at hT
      rw [hT]
      clear hT
      have e1 : (e != 0) = true := by rw [bne_iff_ne]; exact he
      have H3 := Lib.hid (HBAD.out 3 (by decide))
      obtain ⟨W, hW⟩ : ∃ W, (if p then pgK else bgK) = W := ⟨_, rfl⟩
      rw [hW]
      clear HBAD h hW he
      go_enter Tryd.func94, Tryd.ntmps94
      go_wp2_with (go_at_call 22; refine (hN _).mono ?_; rintro e w' ⟨rfl, rfl⟩)
      go_ret
      exact H3.out
  · have e1 : ((rest.length : Int) != 1) = true := by rw [bne_iff_ne]; omega
    rw [hne h1]
    have H3 := Lib.hid (HBAD.out 3 (by decide))
    obtain ⟨n, hn⟩ : ∃ n, rest.length = n := ⟨_, rfl⟩
    rw [hn] at e1 hc ⊢
    obtain ⟨W, hW⟩ : ∃ W, (if p then pgK else bgK) = W := ⟨_, rfl⟩
    rw [hW]
    clear hne h1 hn HS hsz HBAD h hW
    go_enter Tryd.func94, Tryd.ntmps94
    go_wp2_with fail
    go_ret
    exact H3.out
end Go.Proofs.YtnhnphifhkkboaaDoor
