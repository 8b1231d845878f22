/- COPIES OF LISTS of numbers. -/
import Derived.Test.YtggdjiijcoklgaaQTabIn
import Derived.Test.YtggdjiijcoklgaaQBitsR
import Derived.Test.YtggdjiijcoklgaaQStnB
import Derived.Test.YtggdjiijcoklgaaProg
import Derived.Test.YtggdjiijcoklgaaQKeep
import Derived.Test.YtggdjiijcoklgaaQOwnU
import Derived.Deep.RegionWith
import Derived.Deep.RegionLaw
import Derived.Deep.QuietTactic
import Derived.BigQuiet
import Derived.BigRegion
import Derived.WalkKit
import Derived.Laws.BitsAllLaws
import Derived.WalkSpells
import Derived.Outline
import Derived.Below
import Derived.Deep.RegionHeld3
namespace Go.Proofs.Ytggdjiijcoklgaa
open Go.RowKit
set_option linter.unusedVariables false
set_option linter.unusedSimpArgs false

theorem ownI_src {w : World} {b : Nat} {p : Addr} {n c : Nat} {zs : List Int} (h : OwnI w b (.slice (some p) n c) zs) : ∀ j u, (zs.map (Value.int .i64))[j]? = some u → w.cell? (p.add j) = some u := by
  intro j u hj
  rw [List.getElem?_map] at hj
  cases hz : zs[j]? with
  | none => rw [hz] at hj; cases hj
  | some z =>
    rw [hz] at hj
    cases hj
    obtain ⟨hlt, hzj⟩ := List.getElem?_eq_some_iff.1 hz
    obtain ⟨g, e, _, _, hq, _⟩ := h.cell j hlt
    cases e
    rw [hzj] at hq
    rw [show (⟨g, 0, none⟩ : Addr).add j = ⟨g, j, none⟩ by unfold Addr.add; split <;> simp_all]
    exact hq
theorem own_new {w : World} {base : Nat} (zs : List Int) (c : Nat) (k : Nat) (hb : base ≤ w.heap.size) (hc : zs.length ≤ c) (hm : c ≤ maxLen) (hk : c = zs.length + k) : OwnI (w.drew.alloc (.cells ((zs.map (Value.int .i64)).toArray ++ Builtin.zeroCells (Value.int .i64 0).cells k) 2)) base (.slice (some ⟨w.heap.size, 0, none⟩) zs.length c) zs := by
  refine ⟨by simp, .inr ⟨w.heap.size, c, _, rfl, hb, heap_alloc_new w.drew _, hc, hm, ?_, ?_⟩⟩
  · simp [size_zeroCells, Value.cells]; omega
  · simp only [Array.toList_append, Nat.mul_one]
    rw [show zs.length = ((zs.map (Value.int .i64)).toArray.toList).length by simp]
    exact List.take_left
/-- numbers put behind nothing: a copy -/
theorem app_nil (w : World) (ty : TypeId) (b : Nat) (u : Value) (zs : List Int) (hs : OwnI w b u zs) (hl : zs.length ≤ 100000) :
    ∃ v' w', (Builtin.append_ #[24, 24] ty #[.slice none 0 0, u]).run Try.prog w = .ok v' w' ∧ OwnI w' w.heap.size v' zs ∧ Below w.heap.size w w' := by
  obtain ⟨i0, hi, hz0, hz1, hz2⟩ := info_parts info64
  rcases hs.2 with ⟨rfl, h0⟩ | ⟨g, cap, cur, rfl, _⟩
  · obtain rfl : zs = [] := List.eq_nil_of_length_eq_zero h0
    exact ⟨_, _, run_append_owned_none w w.heap.size _ _ 2 i0 1 Try.underlying24 hi _ 0 [] (World.ownsRow_nil _ _ _ _), OwnI.nil _ _, Below.refl _ _⟩
  · by_cases h0 : zs.length = 0
    · obtain rfl : zs = [] := List.eq_nil_of_length_eq_zero h0
      refine ⟨.slice none 0 0, w, ?_, OwnI.nil _ _, Below.refl _ _⟩
      simp [Builtin.append_, run_underlying Try.underlying24, sizeOf, typeInfo, hi, Builtin.lenOf, Builtin.firstCells, loadCells, loadCellsFrom]
    · have hr := run_append_nil (P := Try.prog) w 24 ty 2 i0 (.int .i64 0) Try.underlying24 hi hz0 ⟨g, 0, none⟩ zs.length cap (zs.map (Value.int .i64)) (by rw [hz1]; simp) (ownI_src hs) (by omega) (by omega) (by rw [hz2]; omega)
      have hge := grownCap_ge w zs.length 0 2
      have hle := grownCap_le_maxLen w zs.length 0 2 (by unfold maxLen; omega)
      refine ⟨_, _, hr, own_new zs _ _ (Nat.le_refl _) hge hle (by omega), ?_⟩
      exact (Below.refl w.heap.size w).trans (Below.alloc (Below.drew (Below.refl _ _)) (Nat.le_refl _) _)
/-- numbers put behind an empty row: a copy -/
theorem app_empty (w : World) (ty : TypeId) (G : Nat) (hG : w.heap[G]? = some (.cells #[] 2 (0, 0))) (b : Nat) (u : Value) (zs : List Int) (hs : OwnI w b u zs) (hl : zs.length ≤ 100000) :
    ∃ G' c w', (Builtin.append_ #[24, 24] ty #[.slice (some ⟨G, 0, none⟩) 0 0, u]).run Try.prog w = .ok (.slice (some ⟨G', 0, none⟩) zs.length c) w' ∧ (G' = G ∨ G' = w.heap.size) ∧ (∀ base, base ≤ G → OwnI w' base (.slice (some ⟨G', 0, none⟩) zs.length c) zs) ∧ Below w.heap.size w w' := by
  obtain ⟨i0, hi, hz0, hz1, hz2⟩ := info_parts info64
  have hlt := (Array.getElem?_eq_some_iff.1 hG).1
  have hown : ∀ base, base ≤ G → OwnI w base (.slice (some ⟨G, 0, none⟩) 0 0) [] := fun base h => ⟨by simp, .inr ⟨G, 0, #[], rfl, h, hG, Nat.le_refl _, by unfold maxLen; omega, rfl, rfl⟩⟩
  rcases hs.2 with ⟨rfl, h0⟩ | ⟨g, cap, cur, rfl, _⟩
  · obtain rfl : zs = [] := List.eq_nil_of_length_eq_zero h0
    exact ⟨_, _, _, run_append_owned_none w 0 _ _ 2 i0 1 Try.underlying24 hi _ 0 [] (hown 0 (Nat.zero_le _)), .inl rfl, hown, Below.refl _ _⟩
  · by_cases h0 : zs.length = 0
    · obtain rfl : zs = [] := List.eq_nil_of_length_eq_zero h0
      refine ⟨G, 0, w, ?_, .inl rfl, hown, Below.refl _ _⟩
      simp [Builtin.append_, run_underlying Try.underlying24, sizeOf, typeInfo, hi, Builtin.lenOf, Builtin.firstCells, loadCells, loadCellsFrom, storeCells]
    · have hr := run_append_grow (P := Try.prog) w 24 ty 2 i0 (.int .i64 0) Try.underlying24 hi hz0 ⟨G, 0, none⟩ 0 0 [] (by simp) (by simp) ⟨g, 0, none⟩ zs.length cap (zs.map (Value.int .i64)) (by rw [hz1]; simp) (ownI_src hs) (by omega) (by omega) (by rw [hz2, nextslicecap_zero (by omega)]; omega)
      have hge := grownCap_ge w (0 + zs.length) 0 2
      have hle := grownCap_le_maxLen w (0 + zs.length) 0 2 (by unfold maxLen; omega)
      simp only [Nat.zero_add, Array.empty_append] at hr hge hle
      refine ⟨_, _, _, hr, .inr rfl, fun base hb => own_new zs _ _ (by omega) hge hle (by omega), ?_⟩
      exact (Below.refl w.heap.size w).trans (Below.alloc (Below.drew (Below.refl _ _)) (Nat.le_refl _) _)
set_option maxRecDepth 100000 in
theorem copyNums_any (b : Nat) (v : Value) (zs : List Int) (w : World) (hl : zs.length ≤ 100000) (hs : OwnI w b v zs) :
    Calls Try.prog 94 #[v] w fun e w' => ∃ v', e = .returned v' ∧ OwnI w' w.heap.size v' zs ∧ Below w.heap.size w w' := by
  have H : Hid (∀ ty, ∃ v' w', (Builtin.append_ #[24, 24] ty #[.slice none 0 0, v]).run Try.prog w = .ok v' w' ∧ OwnI w' w.heap.size v' zs ∧ Below w.heap.size w w') := fun ty => app_nil w ty b v zs hs hl
  obtain ⟨p, c, rfl⟩ := hs.shape
  clear hs
  obtain ⟨v', w', hrun, hO, hB⟩ := H.out 24
  have hO' : Hid (OwnI _ _ _ _) := hO
  obtain ⟨p', c', rfl⟩ := hO.shape
  clear hO H
  go_enter Try.func94, Try.ntmps94
  go_wp2_with (at_builtin; refine wpList_plain rfl fun K hK => ?_; unfold Oper.wp; simp [execOp, resolve, invoke, builtin, Act.eval, hrun, Result.andThen]; refine hK _ _ ?_)
  go_ret
  exact ⟨_, rfl, hO'.out, hB⟩
end Go.Proofs.Ytggdjiijcoklgaa
/- ONE MORE of what others told all, put behind the others; one more text. -/
namespace Go.Proofs.Ytggdjiijcoklgaa
open Go.RowKit
set_option linter.unusedVariables false
set_option linter.unusedSimpArgs false

theorem glob_int : (118 : TypeId) ≠ 2 := by decide
/-- a row of pairs is no row of numbers -/
theorem row_ne {w : World} {base b : Nat} {v u : Value} {n : Nat} {xs : List Value} {zs : List Int} (h : w.ownsRow base 118 2 v n xs) (ho : OwnI w b u zs) (k : Nat) (hu : u.ownBlock = some k) : v.ownBlock ≠ some k := by
  intro hv
  rcases h.2 with ⟨rfl, _⟩ | ⟨g, cap, cur, rfl, _, hg, _⟩
  · cases hv
  · rcases ho.2 with ⟨rfl, _⟩ | ⟨g2, cap2, cur2, rfl, _, hg2, _⟩
    · cases hu
    · have e1 : g = k := by simpa [Value.ownBlock] using hv
      have e2 : g2 = k := by simpa [Value.ownBlock] using hu
      rw [e1] at hg
      rw [e2, hg] at hg2
      simp only [Option.some.injEq, Obj.cells.injEq] at hg2
      exact glob_int hg2.2.1
theorem OwnI.keptBy {w w' : World} {base : Nat} {v : Value} {zs : List Int} (h : OwnI w base v zs) {row : Option Nat} (g : w.grownBy w' row) (hne : ∀ k, v.ownBlock = some k → row ≠ some k) : OwnI w' base v zs := by
  refine World.ownsRow.kept h g ?_
  cases e : v.ownBlock with
  | none => exact .inl rfl
  | some k => exact .inr (fun e2 => hne k e e2.symm)
theorem app_glob {w0 : World} (w : World) (ty : TypeId) (base : Nat) (v : Value) (gs : List (Int × List Int)) (hown : OwnG w0 base v gs) (hbel : Below w0.heap.size w0 w) (hb : base ≤ w0.heap.size) (g : Nat) (a : Int) (u : Value) (zs : List Int) (hc0 : w.cell? ⟨g, 0, none⟩ = some (.int .i64 a)) (hc1 : w.cell? ⟨g, 1, none⟩ = some u) (hu1 : u.oneCell' = true)
    (hou : OwnI w w0.heap.size u zs) (hl : gs.length ≤ 100000) :
    ∃ v' w', (Builtin.append_ #[31, 31] ty #[v, .slice (some ⟨g, 0, none⟩) 1 1]).run Try.prog w = .ok v' w' ∧ OwnG w' base v' (gs ++ [(a, zs)]) ∧ w.grownBy w' v.ownBlock := by
  obtain ⟨i0, hi, hz0, hz1, hz2⟩ := info_parts infoG4
  obtain ⟨ps, hpl, hr0, hk0, hd, hn⟩ := hown
  have hr := owns_below hr0 hbel
  have hnews : ∀ j x, ([Value.int .i64 a, u] : List Value)[j]? = some x → w.cell? ((⟨g, 0, none⟩ : Addr).add j) = some x := by
    intro j x hj
    match j, hj with
    | 0, hj => simp at hj; subst hj; simpa [Addr.add] using hc0
    | 1, hj => simp at hj; subst hj; simpa [Addr.add] using hc1
  obtain ⟨v', w', hrun, r1, r2, r3⟩ := run_append_own (P := Try.prog) w base 31 ty 118 i0 (.agg #[.int .i64 0, .slice none 0 0]) 2 32 Try.underlying31 hi hz0 hz1 hz2 rfl (by decide) v gs.length (flatP ps) hr ⟨g, 0, none⟩ 1 1 [.int .i64 a, u] (by simp) hnews
    (by intro x hx; simp at hx; rcases hx with rfl | rfl; · rfl
        · exact hu1) (by unfold maxLen; omega) (by omega) (Nat.le_trans hb hbel.size)
  refine ⟨v', w', hrun, ?_, r2⟩
  have hps : flatP ps ++ [Value.int .i64 a, u] = flatP (ps ++ [(a, u)]) := by rw [flatP_append]; rfl
  rw [hps] at r1
  have hold : ∀ i (h1 : i < gs.length) (h2 : i < ps.length), OwnI w' base ps[i].2 gs[i].2 := fun i h1 h2 => ((hk0 i h1 h2).2.below hbel).keptBy r2 (fun k e => row_ne hr ((hk0 i h1 h2).2.below hbel) k e)
  have hnew : OwnI w' base u zs := (hou.leT hb).keptBy r2 (fun k e => row_ne hr hou k e)
  have hlt : ∀ i (h2 : i < ps.length) k, ps[i].2.ownBlock = some k → k < w0.heap.size := fun i h2 k e => (OwnI.lt (hk0 i (by omega) h2).2 k e).2
  have hge : ∀ k, u.ownBlock = some k → w0.heap.size ≤ k := fun k e => (OwnI.lt hou k e).1
  have hat : ∀ i (h2 : i < (ps ++ [(a, u)]).length), (∃ (h : i < ps.length), (ps ++ [(a, u)])[i] = ps[i]) ∨ (i = ps.length ∧ (ps ++ [(a, u)])[i] = (a, u)) := fun i h2 => by
    by_cases h : i < ps.length
    · exact .inl ⟨h, List.getElem_append_left h⟩
    · have e : i = ps.length := by simp at h2; omega
      subst e
      exact .inr ⟨rfl, by simp⟩
  have hws : ∀ i (h1 : i < (gs ++ [(a, zs)]).length) (h2 : i < (ps ++ [(a, u)]).length), (ps ++ [(a, u)])[i].1 = (gs ++ [(a, zs)])[i].1 ∧ OwnI w' base (ps ++ [(a, u)])[i].2 (gs ++ [(a, zs)])[i].2 := fun i h1 h2 => by
    rcases hat i h2 with ⟨h, e⟩ | ⟨h, e⟩
    · rw [e, List.getElem_append_left (by omega)]
      exact ⟨(hk0 i (by omega) h).1, hold i (by omega) h⟩
    · rw [e]
      have e2 : (gs ++ [(a, zs)])[i] = (a, zs) := by
        have : i = gs.length := by omega
        subst this
        simp
      rw [e2]
      exact ⟨rfl, hnew⟩
  refine ⟨ps ++ [(a, u)], by simp [hpl], by rw [List.length_append]; exact r1, hws, ?_, ?_⟩
  · intro i j k h1 h2 e1 e2
    rcases hat i h1 with ⟨hi', q1⟩ | ⟨hi', q1⟩ <;> rcases hat j h2 with ⟨hj', q2⟩ | ⟨hj', q2⟩
    · rw [q1] at e1
      rw [q2] at e2
      exact hd i j k hi' hj' e1 e2
    · rw [q1] at e1
      rw [q2] at e2
      have := hlt i hi' k e1
      have := hge k e2
      omega
    · rw [q1] at e1
      rw [q2] at e2
      have := hlt j hj' k e2
      have := hge k e1
      omega
    · omega
  · intro i k h1 e1
    exact row_ne r1 (hws i (by simp at h1 ⊢; omega) h1).2 k e1
theorem app_text (w : World) (ty : TypeId) (base : Nat) (v : Value) (ss : List ByteArray) (hown : OwnT4 w base v ss) (g : Nat) (t : ByteArray) (hc : w.cell? ⟨g, 0, none⟩ = some (.string t)) (hl : ss.length ≤ 100000) (hb : base ≤ w.heap.size) :
    ∃ v' w', (Builtin.append_ #[26, 26] ty #[v, .slice (some ⟨g, 0, none⟩) 1 1]).run Try.prog w = .ok v' w' ∧ OwnT4 w' base v' (ss ++ [t]) ∧ w.grownBy w' v.ownBlock := by
  obtain ⟨i0, hi, hz0, hz1, hz2⟩ := info_parts infoT4
  have hnews : ∀ j x, ([Value.string t] : List Value)[j]? = some x → w.cell? ((⟨g, 0, none⟩ : Addr).add j) = some x := by
    intro j x hj
    match j, hj with
    | 0, hj => simp at hj; subst hj; simpa [Addr.add] using hc
  obtain ⟨v', w', hrun, r1, r2, r3⟩ := run_append_own (P := Try.prog) w base 26 ty 9 i0 (.string ⟨#[]⟩) 1 16 Try.underlying26 hi hz0 hz1 hz2 rfl (by decide) v ss.length (ss.map Value.string) hown ⟨g, 0, none⟩ 1 1 [.string t] (by simp) hnews
    (by intro x hx; simp at hx; subst hx; rfl) (by unfold maxLen; omega) (by omega) hb
  refine ⟨v', w', hrun, ?_, r2⟩
  unfold OwnT4
  rw [List.length_append, List.map_append]
  exact r1
end Go.Proofs.Ytggdjiijcoklgaa
/- PLAIN: two ways to take escapes back answer the same; nothing of the program. -/
namespace Go.Proofs.Ytggdjiijcoklgaa

def needE (c : UInt8) : Bool := c == 126 || c == 125
theorem needE_iff (c : UInt8) : needE c = true ↔ c = 126 ∨ c = 125 := by simp [needE]
/-- escapes taken back, where they may have been made -/
def unT : List UInt8 → Option (List UInt8)
  | [] => some []
  | [c] => if c = 126 ∨ c = 125 then none else some [c]
  | c :: d :: l => if c = 126 then none else if c = 125 then (if needE (d ^^^ 32) then (unT l).map ((d ^^^ 32) :: ·) else none) else (unT (d :: l)).map (c :: ·)
theorem unT_flag (l : List UInt8) : unT (126 :: l) = none := by
  cases l with
  | nil => rfl
  | cons d l => rw [unT, if_pos rfl]
theorem unT_end : unT [125] = none := rfl
theorem unT_turn (d : UInt8) (l : List UInt8) (h : needE (d ^^^ 32) = true) : unT (125 :: d :: l) = (unT l).map ((d ^^^ 32) :: ·) := by
  rw [unT, if_neg (by decide), if_pos rfl, if_pos h]
theorem unT_no (d : UInt8) (l : List UInt8) (h : needE (d ^^^ 32) = false) : unT (125 :: d :: l) = none := by
  rw [unT, if_neg (by decide), if_pos rfl, if_neg (by simp [h])]
theorem unT_plain (c : UInt8) (l : List UInt8) (h1 : c ≠ 126) (h2 : c ≠ 125) : unT (c :: l) = (unT l).map (c :: ·) := by
  cases l with
  | nil => show (if _ then _ else _) = _; rw [if_neg (by simp [h1, h2])]; rfl
  | cons d l => rw [unT, if_neg h1, if_neg h2]
theorem unT_esc (p : List UInt8) : unT (escL p) = some p := by
  induction p with
  | nil => rfl
  | cons c l ih =>
    rw [escL_cons]
    unfold esc1
    split
    · rename_i h
      rw [List.cons_append, List.cons_append, List.nil_append, unT_turn _ _ (by rw [turn_twice]; exact (needE_iff c).2 h), ih, turn_twice]; rfl
    · rename_i h
      rw [List.cons_append, List.nil_append, unT_plain c _ (fun e => h (.inl e)) (fun e => h (.inr e)), ih]; rfl
theorem esc_unT : ∀ (l p : List UInt8), unT l = some p → escL p = l := by
  intro l
  induction l using unT.induct with
  | case1 => intro p h; rw [unT] at h; cases h; rfl
  | case2 c h0 => intro p h; rw [unT, if_pos h0] at h; cases h
  | case3 c h0 => intro p h; rw [unT, if_neg h0] at h; cases h; simp [escL, esc1, h0]
  | case4 d l => intro p h; rw [unT, if_pos rfl] at h; cases h
  | case5 d l h2 h1 ih =>
    intro p h
    rw [unT, if_neg h1, if_pos rfl, if_pos h2] at h
    cases hq : unT l with
    | none => rw [hq] at h; cases h
    | some q =>
      rw [hq] at h
      cases h
      rw [escL_cons, ih q hq]
      unfold esc1
      rw [if_pos ((needE_iff _).1 h2), turn_twice]; rfl
  | case6 d l h2 h1 => intro p h; rw [unT, if_neg h1, if_pos rfl, if_neg h2] at h; cases h
  | case7 c d l h1 h2 ih =>
    intro p h
    rw [unT, if_neg h1, if_neg h2] at h
    cases hq : unT (d :: l) with
    | none => rw [hq] at h; cases h
    | some q =>
      rw [hq] at h
      cases h
      rw [escL_cons, ih q hq]
      unfold esc1
      rw [if_neg (by simp [h1, h2])]; rfl
/-- a text that opens and ends with a flag -/
theorem flags_inner (t : List UInt8) (h1 : t.head? = some 126) (h2 : t.getLast? = some 126) (h3 : 2 ≤ t.length) : t = 126 :: (innerL t ++ [126]) := by
  cases t with
  | nil => simp at h1
  | cons c l =>
    simp at h1
    subst h1
    have hl : l ≠ [] := by intro e; rw [e] at h3; simp at h3
    have h4 : l.getLast? = some 126 := by rw [← h2]; exact (List.getLast?_cons_of_ne_nil hl).symm
    congr 1
    have e : innerL (126 :: l) = l.dropLast := by
      unfold innerL; rw [List.dropLast_eq_take]; simp
    rw [e]
    have h5 : l.getLast hl = 126 := by rw [List.getLast?_eq_some_getLast hl] at h4; exact Option.some.inj h4
    have := List.dropLast_concat_getLast hl
    rw [h5] at this
    exact this.symm
theorem frame_flags (p : List UInt8) : (frameL p).head? = some 126 ∧ (frameL p).getLast? = some 126 ∧ 2 ≤ (frameL p).length := by
  refine ⟨rfl, ?_, by rw [frameL_length]; omega⟩
  show (126 :: (escL p ++ [126])).getLast? = _
  rw [← List.cons_append, List.getLast?_append]
  rfl
/-- what the program asks of a frame -/
def readP (t : List UInt8) : List UInt8 × Int :=
  if 8000 < t.length then ([], 2)
  else if t.length < 2 ∨ t.head? ≠ some 126 ∨ t.getLast? ≠ some 126 then ([], 3)
  else match unT (innerL t) with
    | none => ([], 3)
    | some p => if p.length < 3 ∨ 62 < p.length then ([], 3) else if checkL (p.take (p.length - 2)) ≠ p.drop (p.length - 2) then ([], 5) else (p.take (p.length - 2), 0)
theorem readP_eq (t : List UInt8) : readP t = readL t := by
  unfold readP readL
  split
  · rfl
  · by_cases h : t.length < 2 ∨ t.head? ≠ some 126 ∨ t.getLast? ≠ some 126
    · rw [if_pos h, if_pos]
      right; right
      intro e
      have hf := frame_flags (unescL (innerL t))
      rw [e] at hf
      rcases h with h | h | h
      · omega
      · exact h hf.1
      · exact h hf.2.1
    · rw [if_neg h]
      simp only [not_or, Nat.not_lt, ne_eq, Decidable.not_not] at h
      have hi := flags_inner t h.2.1 h.2.2 h.1
      cases hq : unT (innerL t) with
      | none =>
        rw [if_pos]
        right; right
        intro e
        have e2 : innerL t = escL (unescL (innerL t)) := by rw [← inner_frame, e]
        rw [e2, unT_esc] at hq
        cases hq
      | some p =>
        have he := esc_unT _ _ hq
        have e2 : unescL (innerL t) = p := by rw [← he, unesc_esc]
        have e3 : frameL p = t := by unfold frameL; rw [he]; exact hi.symm
        rw [e2, e3]
        simp
end Go.Proofs.Ytggdjiijcoklgaa
/- PLAIN: the check over numbers as the walks write them; nothing of the program. -/
namespace Go.Proofs.Ytggdjiijcoklgaa

theorem ofInt_i64 (a : Nat) (ha : a < 9223372036854775808) : (BitVec.ofInt 64 (a : Int)).toNat = a := by
  rw [BitVec.ofInt_natCast, BitVec.toNat_ofNat]; exact Nat.mod_eq_of_lt (by omega)
theorem i64_xor_nat (a b : Nat) (ha : a < 65536) (hb : b < 65536) : bits .xor .i64 (a : Int) (b : Int) = ((a ^^^ b : Nat) : Int) := by
  have hx : a ^^^ b < 2 ^ 16 := Nat.xor_lt_two_pow (by omega) (by omega)
  show IntKind.i64.wrap ((BitVec.ofInt 64 (a : Int) ^^^ BitVec.ofInt 64 (b : Int)).toNat : Int) = _
  rw [BitVec.toNat_xor, ofInt_i64 a (by omega), ofInt_i64 b (by omega)]
  simp [IntKind.wrap, IntKind.bits, IntKind.signed]
  omega
theorem fcsSteps_zero (x : Nat) : fcsSteps 0 x = x := rfl
theorem odd_i (x : Nat) : (((x : Int) % 2) == 1) = decide (x % 2 = 1) := by
  rw [Bool.eq_iff_iff]; simp; omega
theorem fcs_start (x b : Nat) (hx : x < 65536) (hb : b < 256) : bits .xor .i64 (x : Int) (b : Int) = ((fcsSteps 0 (x ^^^ b) : Nat) : Int) := i64_xor_nat x b hx (by omega)
theorem fcs_yes {x : Nat} (hx : x < 65536) (h : (((x : Int) % 2) == 1) = true) : bits .xor .i64 ((x : Int) / 2) 33800 = ((fcsStep x : Nat) : Int) := by
  rw [odd_i] at h
  have e : (x : Int) / 2 = ((x / 2 : Nat) : Int) := by omega
  unfold fcsStep
  rw [if_pos (by simpa using h), e]
  exact i64_xor_nat (x / 2) 33800 (by omega) (by decide)
theorem fcs_no {x : Nat} (h : (((x : Int) % 2) == 1) = false) : (x : Int) / 2 = ((fcsStep x : Nat) : Int) := by
  rw [odd_i] at h
  unfold fcsStep
  rw [if_neg (by simpa using h)]
  omega
theorem fcs16_start (x b : Nat) (hx : x < 65536) (hb : b < 256) : bits .xor .u16 (x : Int) (b : Int) = ((fcsSteps 0 (x ^^^ b) : Nat) : Int) := u16_xor_nat x b hx (by omega)
theorem fcs16_yes {x : Nat} (hx : x < 65536) (h : (((x : Int) % 2) == 1) = true) : bits .xor .u16 ((x : Int) / 2) 33800 = ((fcsStep x : Nat) : Int) := by
  rw [odd_i] at h
  have e : (x : Int) / 2 = ((x / 2 : Nat) : Int) := by omega
  unfold fcsStep
  rw [if_pos (by simpa using h), e]
  exact u16_xor_nat (x / 2) 33800 (by omega) (by decide)
/-- the check of a text, where it is short enough -/
def fcsV (s : ByteArray) : Nat := if 8000 < s.size then 0 else fcsL s.data.toList
def checkB (s : ByteArray) : ByteArray := ⟨(checkL s.data.toList).toArray⟩
theorem checkB_size (s : ByteArray) : (checkB s).size = 2 := rfl
end Go.Proofs.Ytggdjiijcoklgaa
/- PLAIN: frames as texts; nothing of the program. -/
namespace Go.Proofs.Ytggdjiijcoklgaa

theorem xor32 (c : UInt8) : bits .xor .u8 (c.toNat : Int) 32 = ((c ^^^ 32).toNat : Int) := by
  rw [UInt8.toNat_xor]
  exact u8_xor_nat c.toNat 32 c.toNat_lt (by decide)
theorem eq_u8 (c : UInt8) (k : Nat) (hk : k < 256) : ((c.toNat : Int) == (k : Int)) = decide (c = UInt8.ofNat k) := by
  rw [Bool.eq_iff_iff]
  simp only [beq_iff_eq, decide_eq_true_eq]
  constructor
  · intro h
    apply UInt8.toNat_inj.1
    rw [UInt8.toNat_ofNat']
    omega
  · intro h
    rw [h, UInt8.toNat_ofNat']
    omega
theorem is126 (c : UInt8) : ((c.toNat : Int) == 126) = decide (c = 126) := eq_u8 c 126 (by decide)
theorem is125 (c : UInt8) : ((c.toNat : Int) == 125) = decide (c = 125) := eq_u8 c 125 (by decide)
def bytesOf (l : List UInt8) : ByteArray := ⟨l.toArray⟩
theorem bytesOf_size (l : List UInt8) : (bytesOf l).size = l.length := by simp [bytesOf, ByteArray.size]
theorem bytesOf_list (l : List UInt8) : (bytesOf l).data.toList = l := by simp [bytesOf]
theorem bytesOf_data (s : ByteArray) : bytesOf s.data.toList = s := by
  apply ByteArray.ext; simp [bytesOf]
theorem bytesOf_append (l m : List UInt8) : bytesOf l ++ bytesOf m = bytesOf (l ++ m) := by
  apply ByteArray.ext; simp [bytesOf, ByteArray.data_append]
theorem append_bytesOf (s : ByteArray) (m : List UInt8) : s ++ bytesOf m = bytesOf (s.data.toList ++ m) := by
  rw [← bytesOf_append, bytesOf_data]
theorem list_append (s t : ByteArray) : (s ++ t).data.toList = s.data.toList ++ t.data.toList := by simp [ByteArray.data_append]
theorem list_length (s : ByteArray) : s.data.toList.length = s.size := by rw [Array.length_toList]; rfl
def frameB (s : ByteArray) : ByteArray := bytesOf (frameT s.data.toList)
theorem frameB_in (s : ByteArray) (h1 : 1 ≤ s.size) (h2 : s.size ≤ 60) : frameB s = bytesOf (frameL (s.data.toList ++ checkL s.data.toList)) := by
  unfold frameB frameT
  rw [if_neg (by rw [list_length]; omega)]
theorem frameB_out (s : ByteArray) (h : s.size < 1 ∨ 60 < s.size) : frameB s = ByteArray.empty := by
  unfold frameB frameT
  rw [if_pos (by rw [list_length]; omega)]
  rfl
theorem frameB_size (s : ByteArray) : (frameB s).size ≤ 126 := by unfold frameB; rw [bytesOf_size]; exact frameT_length _
theorem frame_parts (s : ByteArray) : bytesOf [126] ++ bytesOf (escL s.data.toList) ++ bytesOf (escL (checkL s.data.toList)) ++ bytesOf [126] = bytesOf (frameL (s.data.toList ++ checkL s.data.toList)) := by
  rw [bytesOf_append, bytesOf_append, bytesOf_append]
  unfold frameL
  rw [escL_append]
  simp
end Go.Proofs.Ytggdjiijcoklgaa
/- THE WALKS of the law's own marks: texts that are put into an answer's list and looked for again; lists of texts held against each other. -/
namespace Go.Proofs.Ytggdjiijcoklgaa
open Go.RowKit
set_option linter.unusedVariables false
set_option linter.unusedSimpArgs false

def digsN (n : Nat) : List UInt8 := if h : n = 0 then [] else digsN (n / 10) ++ [UInt8.ofNat (48 + n % 10)]
termination_by n
decreasing_by omega
theorem digsN_pos {n : Nat} (h : 0 < n) : digsN n = digsN (n / 10) ++ [UInt8.ofNat (48 + n % 10)] := by rw [digsN, dif_neg (by omega)]
theorem digsN_zero : digsN 0 = [] := by rw [digsN, dif_pos rfl]
theorem digsN_len (n : Nat) : (digsN n).length ≤ n := by
  induction n using Nat.strongRecOn with
  | _ n ih =>
    rcases Nat.eq_zero_or_pos n with rfl | h
    · rw [digsN_zero]; simp
    · rw [digsN_pos h, List.length_append]
      have := ih (n / 10) (by omega)
      simp only [List.length_cons, List.length_nil]
      omega
/-- the mark of a number from 1 on -/
def markB (n : Nat) : ByteArray := bytesOf ([109] ++ digsN n)
theorem digit_conv (w : World) (n : Nat) : (convert 121 9 (.slice (some ⟨w.heap.size, 0, none⟩) 1 1)).run Try.prog (w.alloc (.cells #[.int .u8 (48 + (n : Int) % 10)] 5)) = .ok (.string (bytesOf [UInt8.ofNat (48 + n % 10)])) (w.alloc (.cells #[.int .u8 (48 + (n : Int) % 10)] 5)) := by
  have hc : cellsB (bytesOf [UInt8.ofNat (48 + n % 10)]) = [.int .u8 (48 + (n : Int) % 10)] := by
    simp only [cellsB, bytesOf, List.map_cons, List.map_nil]
    rw [show (UInt8.ofNat (48 + n % 10)).toNat = 48 + n % 10 by rw [UInt8.toNat_ofNat']; omega]
    rfl
  have h := Lib.run_convert_whole (P := Try.prog) (w.alloc (.cells [.int .u8 (48 + (n : Int) % 10)].toArray 5)) 121 5 9 Try.underlying121 Try.underlying5 Try.underlying9 w.heap.size 0 (bytesOf [UInt8.ofNat (48 + n % 10)]) (bytes_of_cells (bytesOf [UInt8.ofNat (48 + n % 10)]) (heap_alloc_new w _) (by rw [hc, bytesOf_size]; rfl)) 1
  rw [bytesOf_size] at h
  exact h
set_option maxRecDepth 100000 in
set_option maxHeartbeats 800000 in
theorem markText_any (K : Nat) (w : World) (h1 : 0 < K) (h2 : K ≤ 10000000) :
    Calls Try.prog 99 #[.int .i64 K] w fun e w' => e = .returned (.string (markB K)) ∧ Below w.heap.size w w' := by
  go_enter Try.func99, Try.ntmps99
  go_wp2
  go_loopw [0, 3] (fun x t wr => ∃ (n : Nat) (s : ByteArray), n ≤ K ∧ x = .int .i64 n ∧ t = .string s ∧ s.size ≤ 10000000 ∧ Hid (digsN n ++ s.data.toList = digsN K) ∧ Below w.heap.size w wr)
    (fun x _ _ => (intOf x).toNat)
  case atStart => exact ⟨K, ByteArray.empty, Nat.le_refl _, rfl, rfl, by simp, by simp [Hid], Below.refl _ _⟩
  case round =>
    obtain ⟨n, s, hn, rfl, rfl, hs, HL, hbel⟩ := hrel
    have hsz := hbel.size
    by_cases hlt : 0 < n
    · have hcv := digit_conv wr n
      have HD : Hid _ := digsN_pos hlt
      have hle : s.size + 1 ≤ 10000000 := by
        have h3 := congrArg List.length HL.out
        have h4 := digsN_len K
        rw [List.length_append, list_length, digsN_pos hlt, List.length_append, List.length_singleton] at h3
        omega
      have hz1 : (bytesOf [UInt8.ofNat (48 + n % 10)]).size = 1 := bytesOf_size _
      have HA : Hid _ := bytesOf_list [UInt8.ofNat (48 + n % 10)]
      generalize bytesOf [UInt8.ofNat (48 + n % 10)] = D at hcv hz1 HA
      go_wp2
      go_roundw
      case rel => exact ⟨n / 10, D ++ s, by omega, by go_num, rfl, by rw [ByteArray.size_append]; omega, (show _ = _ by rw [list_append, HA.out, ← List.append_assoc, ← HD.out]; exact HL.out), hbel.alloc hsz _⟩
      case measure => simp [intOf]; omega
    · have hz1 : (bytesOf [109]).size = 1 := bytesOf_size _
      have e : markB K = bytesOf [109] ++ s := by
        unfold markB
        rw [← bytesOf_append, ← HL.out, show n = 0 by omega, digsN_zero, List.nil_append, bytesOf_data]
      have he : Hid _ := e
      clear e
      go_wp2
      go_ret
      exact ⟨by rw [he.out]; rfl, hbel⟩
end Go.Proofs.Ytggdjiijcoklgaa
