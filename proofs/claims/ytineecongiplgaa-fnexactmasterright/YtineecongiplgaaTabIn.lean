/- A TABLE THAT CAME IN: opened; copied, counted and held against another by the law itself; marked, still marked. -/
import Derived.Test.YtineecongiplgaaIntsK
import Derived.Test.YtineecongiplgaaIntsB
import Derived.Test.YtineecongiplgaaPlainTb
import Derived.Test.YtineecongiplgaaBox
import Derived.WalkKit
import Derived.WalkSpells
import Derived.Outline
import Derived.Below
import Derived.OpenShut
import Derived.ShutString
import Derived.ChangeOld
import Derived.Lib.SmallJoins
import Derived.Deep.RegionHeld3
import Derived.Deep.DeepCutAuto
namespace Go.Proofs.Ytineecongiplgaa
open Go.RowKit Go.ChangeShapes Go.WideShapes Go.ChangeAt
set_option linter.unusedVariables false
set_option linter.unusedSimpArgs false

theorem array2t {α : Type} {cs : Array α} (h : cs.size = 2) : ∃ c0 c1, cs = #[c0, c1] := by
  obtain ⟨l⟩ := cs
  match l, h with
  | [c0, c1], _ => exact ⟨c0, c1, rfl⟩
theorem list2t {α : Type} {l : List α} (h : l.length = 2) : ∃ c0 c1, l = [c0, c1] := by
  match l, h with
  | [c0, c1], _ => exact ⟨c0, c1, rfl⟩
theorem cellsIt : Try.prog.cellsOf 2 = 1 := by kernel_rfl
theorem cellsRt : Try.prog.cellsOf 23 = 1 := by kernel_rfl
theorem cellsTb : Try.prog.cellsOf 57 = 2 := by kernel_rfl
set_option maxRecDepth 100000 in
theorem open_row {H : Type} {enc : TypeId × Value → H} {W : World} {base : Nat} {held : Bool} {c : Value} {y : _} {n : Nat} (h : DataW.trod enc Try.prog W base (fun _ => true) held n 23 [c] = some y) :
    ∃ (zs : List Int) (p : Option Addr) (k : Nat), c = .slice p zs.length k ∧ InI W p zs := by
  obtain ⟨a, len, cap, ys, e7, hrow⟩ : ∃ a len cap zs, c = .slice a len cap ∧ IsRowN .i64 W a len cap zs := by
    rcases open_ints Try.underlying23 Try.underlying2 cellsIt h with ⟨hcs, _⟩ | ⟨x, l, c, zs, hcs, _, hl, hm, hz, _, hcell, hwz⟩
    · simp at hcs
      exact ⟨none, 0, 0, [], hcs, .inl ⟨rfl, rfl, rfl, rfl⟩⟩
    · simp at hcs
      exact ⟨some x, l, c, zs, hcs, .inr ⟨_, rfl, hl, hm, by simpa using hz, hcell, hwz⟩⟩
  subst e7
  obtain ⟨ws, rfl, hini, _⟩ := hrow.ini
  exact ⟨ws, a, cap, rfl, hini⟩
set_option maxRecDepth 100000 in
theorem open_table {H : Type} {enc : TypeId × Value → H} {W : World} {base b0 : Nat} {held : Bool} {r : Reach} {v : Value} {d : DataW H} {pl : List MemPlace}
    (hv : Value.okWide Try.prog W r b0 57 v) (h : DataW.Trod enc Try.prog W base (fun _ => true) held 57 v d pl) :
    ∃ (t : Tb) (p1 p2 : Option Addr) (c1 c2 : Nat), v = .agg #[.slice p1 t.cs.length c1, .slice p2 t.rs.length c2] ∧ InI W p1 t.cs ∧ InI W p2 t.rs := by
  obtain ⟨cs, rfl, hsz⟩ := okWide_struct Try.underlying57 hv
  obtain ⟨c0, c1, rfl⟩ := array2t (hsz.trans cellsTb)
  obtain ⟨fuel, hf⟩ := h
  obtain ⟨xs, n, _, _, hl, hlen, hfl⟩ := DataW.trod_struct Try.underlying57 hf
  obtain ⟨y0, y1, rfl⟩ := list2t hlen
  have h0 : DataW.trod enc Try.prog W base (fun _ => true) held n 23 [c0] = some y0 := by have := hfl 0 _ rfl; simpa [Value.cells, cellsRt] using this
  have h1 : DataW.trod enc Try.prog W base (fun _ => true) held n 23 [c1] = some y1 := by have := hfl 1 _ rfl; simpa [Value.cells, cellsRt] using this
  obtain ⟨z0, p0, k0, rfl, i0⟩ := open_row h0
  obtain ⟨z1, p1, k1, rfl, i1⟩ := open_row h1
  exact ⟨⟨z0, z1⟩, p0, p1, k0, k1, rfl, i0, i1⟩
/-- what the law counts of a table -/
def leftT (t : Tb) : Int := if t.cs.length + t.rs.length ≤ 1048576 then 1048576 - (t.cs.length : Int) - (t.rs.length : Int) else -1
set_option maxRecDepth 100000 in
theorem szTable_any (t : Tb) (p1 p2 : Option Addr) (c1 c2 : Nat) (w : World) (hn1 : t.cs.length ≤ 9223372036854775807) (hn2 : t.rs.length ≤ 9223372036854775807) :
    Calls Try.prog 70 #[.agg #[.slice p1 t.cs.length c1, .slice p2 t.rs.length c2], .int .i64 1048576] w fun x w' => x = .returned (.int .i64 (leftT t)) ∧ Below w.heap.size w w' := by
  unfold leftT
  generalize t.cs.length = n1 at *
  generalize t.rs.length = n2 at *
  have H1 : Hid (∀ W : World, Calls Try.prog 91 #[.slice p1 n1 c1, .int .i64 1048576] W fun x w' => x = .returned (.int .i64 (if (n1 : Int) ≤ 1048576 then 1048576 - (n1 : Int) else -1)) ∧ W = w') := fun W => szInt64S_from 1048576 (by omega) p1 n1 c1 W hn1
  by_cases h : n1 ≤ 1048576
  · have H2 : Hid (∀ W : World, Calls Try.prog 91 #[.slice p2 n2 c2, .int .i64 (1048576 - (n1 : Int))] W fun x w' => x = .returned (.int .i64 (if (n2 : Int) ≤ 1048576 - (n1 : Int) then 1048576 - (n1 : Int) - (n2 : Int) else -1)) ∧ W = w') := fun W => szInt64S_from (1048576 - (n1 : Int)) (by omega) p2 n2 c2 W hn2
    rw [if_pos (show (n1 : Int) ≤ 1048576 by omega)] at H1
    have h1 : ¬ (1048576 : Int) - (n1 : Int) < 0 := by omega
    by_cases h2 : n1 + n2 ≤ 1048576
    · rw [if_pos (show (n2 : Int) ≤ 1048576 - (n1 : Int) by omega)] at H2
      rw [if_pos h2]
      have h3 : ¬ (1048576 : Int) - (n1 : Int) - (n2 : Int) < 0 := by omega
      go_enter Try.func70, Try.ntmps70
      go_wp2_with (first
        | (have _ := hD; go_at_call 91; refine (H2.out _).mono ?_; rintro e w1 ⟨rfl, rfl⟩)
        | (go_at_call 91; refine (H1.out _).mono ?_; rintro e w1 ⟨rfl, rfl⟩; have hD : Hid True := trivial))
      go_ret
      exact ⟨rfl, all_alloc _ _⟩
    · rw [if_neg (show ¬ (n2 : Int) ≤ 1048576 - (n1 : Int) by omega)] at H2
      rw [if_neg h2]
      go_enter Try.func70, Try.ntmps70
      go_wp2_with (first
        | (have _ := hD; go_at_call 91; refine (H2.out _).mono ?_; rintro e w1 ⟨rfl, rfl⟩)
        | (go_at_call 91; refine (H1.out _).mono ?_; rintro e w1 ⟨rfl, rfl⟩; have hD : Hid True := trivial))
      go_ret
      exact ⟨rfl, all_alloc _ _⟩
  · rw [if_neg (show ¬ (n1 : Int) ≤ 1048576 by omega)] at H1
    rw [if_neg (by omega)]
    go_enter Try.func70, Try.ntmps70
    go_wp2_with (go_at_call 91; refine (H1.out _).mono ?_; rintro e w1 ⟨rfl, rfl⟩)
    go_ret
    exact ⟨rfl, all_alloc _ _⟩
set_option maxRecDepth 100000 in
set_option maxHeartbeats 800000 in
theorem eqTable_same (t : Tb) (a1 a2 b1 b2 : Value) (w : World) (hl1 : t.cs.length ≤ 10000000) (hl2 : t.rs.length ≤ 10000000) (h1 : RowI w a1 t.cs) (h2 : RowI w a2 t.rs) (h3 : RowI w b1 t.cs) (h4 : RowI w b2 t.rs) :
    Calls Try.prog 78 #[.agg #[a1, a2], .agg #[b1, b2]] w fun x w' => x = .returned (.bool true) ∧ Below w.heap.size w w' := by
  have H1 : Hid (∀ W, Below w.heap.size w W → Calls Try.prog 96 #[a1, b1] W fun e w' => e = .returned (.bool true) ∧ Below W.heap.size W w') := fun W hW => eqInt64S_same a1 b1 t.cs W hl1 (h1.below hW) (h3.below hW)
  have H2 : Hid (∀ W, Below w.heap.size w W → Calls Try.prog 96 #[a2, b2] W fun e w' => e = .returned (.bool true) ∧ Below W.heap.size W w') := fun W hW => eqInt64S_same a2 b2 t.rs W hl2 (h2.below hW) (h4.below hW)
  obtain ⟨p1, c1, rfl, _⟩ := h1
  obtain ⟨p2, c2, rfl, _⟩ := h2
  obtain ⟨p3, c3, rfl, _⟩ := h3
  obtain ⟨p4, c4, rfl, _⟩ := h4
  have hA0 : Hid (Below w.heap.size w _) := keepB (all_alloc w (.cells #[.slice p1 t.cs.length c1, .slice p2 t.rs.length c2] 62)) (Nat.le_refl _) (all_alloc _ (.cells #[.slice p3 t.cs.length c3, .slice p4 t.rs.length c4] 62))
  have hX : Hid _ := blk (heap_alloc_new w (.cells #[.slice p1 t.cs.length c1, .slice p2 t.rs.length c2] 62)) (all_alloc _ (.cells #[.slice p3 t.cs.length c3, .slice p4 t.rs.length c4] 62))
  have hY : Hid _ := heap_alloc_new (w.alloc (.cells #[.slice p1 t.cs.length c1, .slice p2 t.rs.length c2] 62)) (.cells #[.slice p3 t.cs.length c3, .slice p4 t.rs.length c4] 62)
  rw [show (w.alloc (.cells #[.slice p1 t.cs.length c1, .slice p2 t.rs.length c2] 62)).heap.size = w.heap.size + 1 by simp] at hY
  go_enter Try.func78, Try.ntmps78
  go_wp2_with (first
    | (have _ := hD; go_at_call 96; refine (H2.out _ (keepB hA0.out (Nat.le_refl _) hb1)).mono ?_; rintro e w2 ⟨rfl, hb2⟩)
    | (go_at_call 96; refine (H1.out _ hA0.out).mono ?_; rintro e w1 ⟨rfl, hb1⟩; have hD : Hid True := trivial; have x1 := cellW hX.out 1 _ rfl w1 hb1; have y1 := cellW hY.out 1 _ rfl w1 hb1))
  go_ret
  exact ⟨rfl, keepB (keepB hA0.out (Nat.le_refl _) hb1) (Nat.le_refl _) hb2⟩
/-- two lists of a table's own, that lie apart -/
structure OwnT (w : World) (base : Nat) (v1 v2 : Value) (t : Tb) : Prop where
  c : OwnI w base v1 t.cs
  r : OwnI w base v2 t.rs
  ne : ∀ a b, v1.ownBlock = some a → v2.ownBlock = some b → a ≠ b
theorem OwnT.below {w w' : World} {base : Nat} {v1 v2 : Value} {t : Tb} (h : OwnT w base v1 v2 t) (hb : Below w.heap.size w w') : OwnT w' base v1 v2 t := ⟨h.c.below hb, h.r.below hb, h.ne⟩
theorem OwnI.farT {w : World} {base : Nat} {v : Value} {zs : List Int} (h : OwnI w base v zs) {a : Addr} (ha : a.block < base) (x : Value) : OwnI (w.setCell a x) base v zs := by
  refine ⟨h.1, h.2.imp id ?_⟩
  rintro ⟨g, cap, cur, e1, e2, e3, e4⟩
  exact ⟨g, cap, cur, e1, e2, (Below.heap_setCell _ _ _ _ (by omega)).trans e3, e4⟩
theorem OwnI.leT {w : World} {base B : Nat} {v : Value} {zs : List Int} (h : OwnI w base v zs) (hB : B ≤ base) : OwnI w B v zs := by
  refine ⟨h.1, h.2.imp id ?_⟩
  rintro ⟨g, cap, cur, e1, e2, e3⟩
  exact ⟨g, cap, cur, e1, Nat.le_trans hB e2, e3⟩
theorem OwnT.farT {w : World} {base : Nat} {v1 v2 : Value} {t : Tb} (h : OwnT w base v1 v2 t) {a : Addr} (ha : a.block < base) (x : Value) : OwnT (w.setCell a x) base v1 v2 t := ⟨h.c.farT ha x, h.r.farT ha x, h.ne⟩
theorem OwnT.leT {w : World} {base B : Nat} {v1 v2 : Value} {t : Tb} (h : OwnT w base v1 v2 t) (hB : B ≤ base) : OwnT w B v1 v2 t := ⟨h.c.leT hB, h.r.leT hB, h.ne⟩
/-- one made behind the other -/
theorem OwnT.mk2 {w : World} {b m : Nat} {v1 v2 : Value} {t : Tb} (h1 : OwnI w b v1 t.cs) (h2 : OwnI w m v2 t.rs) (hb : b ≤ m) (hlt : ∀ k, v1.ownBlock = some k → k < m) : OwnT w b v1 v2 t :=
  ⟨h1, h2.leT hb, fun a c ha hc e => by have := hlt a ha; have := (OwnI.lt h2 c hc).1; omega⟩
theorem blk_set {W : World} {G : Nat} {cs : Array Value} {t : TypeId} (h : W.heap[G]? = some (.cells cs t (0, 0))) (o : Nat) (v : Value) : (W.setCell ⟨G, o, none⟩ v).heap[G]? = some (.cells (cs.setIfInBounds o v) t (0, 0)) := by
  rw [setCell_eq_setRow W G o cs _ (0, 0) _ h, setRow_heap W G cs _ _ _ h]
theorem blk_far {W : World} {G : Nat} {o : Obj} (h : W.heap[G]? = some o) {a : Addr} (ha : G ≠ a.block) (v : Value) : (W.setCell a v).heap[G]? = some o := (Below.heap_setCell _ _ _ _ (by omega)).trans h
end Go.Proofs.Ytineecongiplgaa
