/- A TABLE THAT CAME IN: opened; copied, counted and held against another by the law itself; marked, still marked. -/
import Derived.Test.YtineecongiplgaaQpPlainSt
import Derived.Test.YtineecongiplgaaQpBox
import Derived.Test.YtineecongiplgaaQpLaws
import Derived.Test.YtineecongiplgaaProg
import Derived.WalkKit
import Derived.WalkSpells
import Derived.Outline
import Derived.Below
import Derived.OpenShut
import Derived.ShutString
import Derived.ChangeOld
import Derived.Lib.SmallJoins
import Derived.Deep.RegionHeld3
import Derived.Deep.DeepCutAuto
import Derived.Laws.AppendOwn
import Derived.Lib.ConvBytes
namespace Go.Proofs.Ytineecongiplgaa
open Go.RowKit Go.ChangeShapes Go.WideShapes Go.ChangeAt
set_option linter.unusedVariables false
set_option linter.unusedSimpArgs false

theorem array2t {α : Type} {cs : Array α} (h : cs.size = 2) : ∃ c0 c1, cs = #[c0, c1] := by
  obtain ⟨l⟩ := cs
  match l, h with
  | [c0, c1], _ => exact ⟨c0, c1, rfl⟩
theorem list2t {α : Type} {l : List α} (h : l.length = 2) : ∃ c0 c1, l = [c0, c1] := by
  match l, h with
  | [c0, c1], _ => exact ⟨c0, c1, rfl⟩
theorem cellsIt : Try.prog.cellsOf 2 = 1 := by kernel_rfl
theorem cellsRt : Try.prog.cellsOf 23 = 1 := by kernel_rfl
theorem cellsTb : Try.prog.cellsOf 57 = 2 := by kernel_rfl
set_option maxRecDepth 100000 in
theorem open_row {H : Type} {enc : TypeId × Value → H} {W : World} {base : Nat} {held : Bool} {c : Value} {y : _} {n : Nat} (h : DataW.trod enc Try.prog W base (fun _ => true) held n 23 [c] = some y) :
    ∃ (zs : List Int) (p : Option Addr) (k : Nat), c = .slice p zs.length k ∧ InI W p zs := by
  obtain ⟨a, len, cap, ys, e7, hrow⟩ : ∃ a len cap zs, c = .slice a len cap ∧ IsRowN .i64 W a len cap zs := by
    rcases open_ints Try.underlying23 Try.underlying2 cellsIt h with ⟨hcs, _⟩ | ⟨x, l, c, zs, hcs, _, hl, hm, hz, _, hcell, hwz⟩
    · simp at hcs
      exact ⟨none, 0, 0, [], hcs, .inl ⟨rfl, rfl, rfl, rfl⟩⟩
    · simp at hcs
      exact ⟨some x, l, c, zs, hcs, .inr ⟨_, rfl, hl, hm, by simpa using hz, hcell, hwz⟩⟩
  subst e7
  obtain ⟨ws, rfl, hini, _⟩ := hrow.ini
  exact ⟨ws, a, cap, rfl, hini⟩
set_option maxRecDepth 100000 in
theorem open_table {H : Type} {enc : TypeId × Value → H} {W : World} {base b0 : Nat} {held : Bool} {r : Reach} {v : Value} {d : DataW H} {pl : List MemPlace}
    (hv : Value.okWide Try.prog W r b0 57 v) (h : DataW.Trod enc Try.prog W base (fun _ => true) held 57 v d pl) :
    ∃ (t : Tb) (p1 p2 : Option Addr) (c1 c2 : Nat), v = .agg #[.slice p1 t.cs.length c1, .slice p2 t.rs.length c2] ∧ InI W p1 t.cs ∧ InI W p2 t.rs := by
  obtain ⟨cs, rfl, hsz⟩ := okWide_struct Try.underlying57 hv
  obtain ⟨c0, c1, rfl⟩ := array2t (hsz.trans cellsTb)
  obtain ⟨fuel, hf⟩ := h
  obtain ⟨xs, n, _, _, hl, hlen, hfl⟩ := DataW.trod_struct Try.underlying57 hf
  obtain ⟨y0, y1, rfl⟩ := list2t hlen
  have h0 : DataW.trod enc Try.prog W base (fun _ => true) held n 23 [c0] = some y0 := by have := hfl 0 _ rfl; simpa [Value.cells, cellsRt] using this
  have h1 : DataW.trod enc Try.prog W base (fun _ => true) held n 23 [c1] = some y1 := by have := hfl 1 _ rfl; simpa [Value.cells, cellsRt] using this
  obtain ⟨z0, p0, k0, rfl, i0⟩ := open_row h0
  obtain ⟨z1, p1, k1, rfl, i1⟩ := open_row h1
  exact ⟨⟨z0, z1⟩, p0, p1, k0, k1, rfl, i0, i1⟩
/-- what the law counts of a table -/
def leftT (t : Tb) : Int := if t.cs.length + t.rs.length ≤ 1048576 then 1048576 - (t.cs.length : Int) - (t.rs.length : Int) else -1
set_option maxRecDepth 100000 in
theorem szTable_any (t : Tb) (p1 p2 : Option Addr) (c1 c2 : Nat) (w : World) (hn1 : t.cs.length ≤ 9223372036854775807) (hn2 : t.rs.length ≤ 9223372036854775807) :
    Calls Try.prog 70 #[.agg #[.slice p1 t.cs.length c1, .slice p2 t.rs.length c2], .int .i64 1048576] w fun x w' => x = .returned (.int .i64 (leftT t)) ∧ Below w.heap.size w w' := by
  unfold leftT
  generalize t.cs.length = n1 at *
  generalize t.rs.length = n2 at *
  have H1 : Hid (∀ W : World, Calls Try.prog 91 #[.slice p1 n1 c1, .int .i64 1048576] W fun x w' => x = .returned (.int .i64 (if (n1 : Int) ≤ 1048576 then 1048576 - (n1 : Int) else -1)) ∧ W = w') := fun W => szInt64S_from 1048576 (by omega) p1 n1 c1 W hn1
  by_cases h : n1 ≤ 1048576
  · have H2 : Hid (∀ W : World, Calls Try.prog 91 #[.slice p2 n2 c2, .int .i64 (1048576 - (n1 : Int))] W fun x w' => x = .returned (.int .i64 (if (n2 : Int) ≤ 1048576 - (n1 : Int) then 1048576 - (n1 : Int) - (n2 : Int) else -1)) ∧ W = w') := fun W => szInt64S_from (1048576 - (n1 : Int)) (by omega) p2 n2 c2 W hn2
    rw [if_pos (show (n1 : Int) ≤ 1048576 by omega)] at H1
    have h1 : ¬ (1048576 : Int) - (n1 : Int) < 0 := by omega
    by_cases h2 : n1 + n2 ≤ 1048576
    · rw [if_pos (show (n2 : Int) ≤ 1048576 - (n1 : Int) by omega)] at H2
      rw [if_pos h2]
      have h3 : ¬ (1048576 : Int) - (n1 : Int) - (n2 : Int) < 0 := by omega
      go_enter Try.func70, Try.ntmps70
      go_wp2_with (first
        | (have _ := hD; go_at_call 91; refine (H2.out _).mono ?_; rintro e w1 ⟨rfl, rfl⟩)
        | (go_at_call 91; refine (H1.out _).mono ?_; rintro e w1 ⟨rfl, rfl⟩; have hD : Hid True := trivial))
      go_ret
      exact ⟨rfl, all_alloc _ _⟩
    · rw [if_neg (show ¬ (n2 : Int) ≤ 1048576 - (n1 : Int) by omega)] at H2
      rw [if_neg h2]
      go_enter Try.func70, Try.ntmps70
      go_wp2_with (first
        | (have _ := hD; go_at_call 91; refine (H2.out _).mono ?_; rintro e w1 ⟨rfl, rfl⟩)
        | (go_at_call 91; refine (H1.out _).mono ?_; rintro e w1 ⟨rfl, rfl⟩; have hD : Hid True := trivial))
      go_ret
      exact ⟨rfl, all_alloc _ _⟩
  · rw [if_neg (show ¬ (n1 : Int) ≤ 1048576 by omega)] at H1
    rw [if_neg (by omega)]
    go_enter Try.func70, Try.ntmps70
    go_wp2_with (go_at_call 91; refine (H1.out _).mono ?_; rintro e w1 ⟨rfl, rfl⟩)
    go_ret
    exact ⟨rfl, all_alloc _ _⟩
set_option maxRecDepth 100000 in
set_option maxHeartbeats 800000 in
theorem eqTable_same (t : Tb) (a1 a2 b1 b2 : Value) (w : World) (hl1 : t.cs.length ≤ 10000000) (hl2 : t.rs.length ≤ 10000000) (h1 : RowI w a1 t.cs) (h2 : RowI w a2 t.rs) (h3 : RowI w b1 t.cs) (h4 : RowI w b2 t.rs) :
    Calls Try.prog 78 #[.agg #[a1, a2], .agg #[b1, b2]] w fun x w' => x = .returned (.bool true) ∧ Below w.heap.size w w' := by
  have H1 : Hid (∀ W, Below w.heap.size w W → Calls Try.prog 96 #[a1, b1] W fun e w' => e = .returned (.bool true) ∧ Below W.heap.size W w') := fun W hW => eqInt64S_same a1 b1 t.cs W hl1 (h1.below hW) (h3.below hW)
  have H2 : Hid (∀ W, Below w.heap.size w W → Calls Try.prog 96 #[a2, b2] W fun e w' => e = .returned (.bool true) ∧ Below W.heap.size W w') := fun W hW => eqInt64S_same a2 b2 t.rs W hl2 (h2.below hW) (h4.below hW)
  obtain ⟨p1, c1, rfl, _⟩ := h1
  obtain ⟨p2, c2, rfl, _⟩ := h2
  obtain ⟨p3, c3, rfl, _⟩ := h3
  obtain ⟨p4, c4, rfl, _⟩ := h4
  have hA0 : Hid (Below w.heap.size w _) := keepB (all_alloc w (.cells #[.slice p1 t.cs.length c1, .slice p2 t.rs.length c2] 62)) (Nat.le_refl _) (all_alloc _ (.cells #[.slice p3 t.cs.length c3, .slice p4 t.rs.length c4] 62))
  have hX : Hid _ := blk (heap_alloc_new w (.cells #[.slice p1 t.cs.length c1, .slice p2 t.rs.length c2] 62)) (all_alloc _ (.cells #[.slice p3 t.cs.length c3, .slice p4 t.rs.length c4] 62))
  have hY : Hid _ := heap_alloc_new (w.alloc (.cells #[.slice p1 t.cs.length c1, .slice p2 t.rs.length c2] 62)) (.cells #[.slice p3 t.cs.length c3, .slice p4 t.rs.length c4] 62)
  rw [show (w.alloc (.cells #[.slice p1 t.cs.length c1, .slice p2 t.rs.length c2] 62)).heap.size = w.heap.size + 1 by simp] at hY
  go_enter Try.func78, Try.ntmps78
  go_wp2_with (first
    | (have _ := hD; go_at_call 96; refine (H2.out _ (keepB hA0.out (Nat.le_refl _) hb1)).mono ?_; rintro e w2 ⟨rfl, hb2⟩)
    | (go_at_call 96; refine (H1.out _ hA0.out).mono ?_; rintro e w1 ⟨rfl, hb1⟩; have hD : Hid True := trivial; have x1 := cellW hX.out 1 _ rfl w1 hb1; have y1 := cellW hY.out 1 _ rfl w1 hb1))
  go_ret
  exact ⟨rfl, keepB (keepB hA0.out (Nat.le_refl _) hb1) (Nat.le_refl _) hb2⟩
/-- two lists of a table's own, that lie apart -/
structure OwnT (w : World) (base : Nat) (v1 v2 : Value) (t : Tb) : Prop where
  c : OwnI w base v1 t.cs
  r : OwnI w base v2 t.rs
  ne : ∀ a b, v1.ownBlock = some a → v2.ownBlock = some b → a ≠ b
theorem OwnT.below {w w' : World} {base : Nat} {v1 v2 : Value} {t : Tb} (h : OwnT w base v1 v2 t) (hb : Below w.heap.size w w') : OwnT w' base v1 v2 t := ⟨h.c.below hb, h.r.below hb, h.ne⟩
theorem OwnI.farT {w : World} {base : Nat} {v : Value} {zs : List Int} (h : OwnI w base v zs) {a : Addr} (ha : a.block < base) (x : Value) : OwnI (w.setCell a x) base v zs := by
  refine ⟨h.1, h.2.imp id ?_⟩
  rintro ⟨g, cap, cur, e1, e2, e3, e4⟩
  exact ⟨g, cap, cur, e1, e2, (Below.heap_setCell _ _ _ _ (by omega)).trans e3, e4⟩
theorem OwnI.leT {w : World} {base B : Nat} {v : Value} {zs : List Int} (h : OwnI w base v zs) (hB : B ≤ base) : OwnI w B v zs := by
  refine ⟨h.1, h.2.imp id ?_⟩
  rintro ⟨g, cap, cur, e1, e2, e3⟩
  exact ⟨g, cap, cur, e1, Nat.le_trans hB e2, e3⟩
theorem OwnT.farT {w : World} {base : Nat} {v1 v2 : Value} {t : Tb} (h : OwnT w base v1 v2 t) {a : Addr} (ha : a.block < base) (x : Value) : OwnT (w.setCell a x) base v1 v2 t := ⟨h.c.farT ha x, h.r.farT ha x, h.ne⟩
theorem OwnT.leT {w : World} {base B : Nat} {v1 v2 : Value} {t : Tb} (h : OwnT w base v1 v2 t) (hB : B ≤ base) : OwnT w B v1 v2 t := ⟨h.c.leT hB, h.r.leT hB, h.ne⟩
/-- one made behind the other -/
theorem OwnT.mk2 {w : World} {b m : Nat} {v1 v2 : Value} {t : Tb} (h1 : OwnI w b v1 t.cs) (h2 : OwnI w m v2 t.rs) (hb : b ≤ m) (hlt : ∀ k, v1.ownBlock = some k → k < m) : OwnT w b v1 v2 t :=
  ⟨h1, h2.leT hb, fun a c ha hc e => by have := hlt a ha; have := (OwnI.lt h2 c hc).1; omega⟩
theorem blk_set {W : World} {G : Nat} {cs : Array Value} {t : TypeId} (h : W.heap[G]? = some (.cells cs t (0, 0))) (o : Nat) (v : Value) : (W.setCell ⟨G, o, none⟩ v).heap[G]? = some (.cells (cs.setIfInBounds o v) t (0, 0)) := by
  rw [setCell_eq_setRow W G o cs _ (0, 0) _ h, setRow_heap W G cs _ _ _ h]
theorem blk_far {W : World} {G : Nat} {o : Obj} (h : W.heap[G]? = some o) {a : Addr} (ha : G ≠ a.block) (v : Value) : (W.setCell a v).heap[G]? = some o := (Below.heap_setCell _ _ _ _ (by omega)).trans h
end Go.Proofs.Ytineecongiplgaa
/- ROWS of bytes that a call made for itself, by append or by a conversion of a text: what they read as, and a byte put behind. -/
namespace Go.Proofs.Ytineecongiplgaa
open Go.RowKit
set_option linter.unusedVariables false

def cellsC (l : List UInt8) : List Value := l.map fun b => Value.int .u8 (b.toNat : Int)
theorem cellsC_length (l : List UInt8) : (cellsC l).length = l.length := by simp [cellsC]
theorem cellsC_append (l m : List UInt8) : cellsC (l ++ m) = cellsC l ++ cellsC m := by simp [cellsC]
def OwnM (w : World) (base : Nat) (e : TypeId) (v : Value) (l : List UInt8) : Prop :=
  (v = .slice none 0 0 ∧ l = []) ∨
  ∃ (g cap : Nat) (cur : Array Value) (fz : Nat × Nat), v = .slice (some ⟨g, 0, none⟩) l.length cap ∧ base ≤ g ∧ w.heap[g]? = some (.cells cur e fz) ∧ (fz = (0, 0) ∨ cap ≤ fz.1) ∧ l.length ≤ cap ∧ cap ≤ maxLen ∧ cur.size = cap ∧ cur.toList.take l.length = cellsC l
theorem OwnM.nil (w : World) (base : Nat) (e : TypeId) : OwnM w base e (.slice none 0 0) [] := .inl ⟨rfl, rfl⟩
theorem OwnM.own {w : World} {base : Nat} {e : TypeId} {v : Value} {l : List UInt8} (h : w.ownsRow base e 1 v l.length (cellsC l)) : OwnM w base e v l := by
  obtain ⟨_, ⟨rfl, h0⟩ | ⟨g, cap, cur, rfl, h1, h2, h3, h4, h5, h6⟩⟩ := h
  · exact .inl ⟨rfl, List.eq_nil_of_length_eq_zero h0⟩
  · exact .inr ⟨g, cap, cur, (0, 0), rfl, h1, h2, .inl rfl, h3, h4, by simpa using h5, by simpa using h6⟩
theorem OwnM.mono {w : World} {base B : Nat} {e : TypeId} {v : Value} {l : List UInt8} (h : OwnM w base e v l) (hB : B ≤ base) : OwnM w B e v l := by
  rcases h with h | ⟨g, cap, cur, fz, h1, h2, h3⟩
  · exact .inl h
  · exact .inr ⟨g, cap, cur, fz, h1, Nat.le_trans hB h2, h3⟩
theorem OwnM.shape {w : World} {base : Nat} {e : TypeId} {v : Value} {l : List UInt8} (h : OwnM w base e v l) : ∃ a cap, v = .slice a l.length cap := by
  rcases h with ⟨rfl, rfl⟩ | ⟨g, cap, _, _, rfl, _⟩
  · exact ⟨_, _, rfl⟩
  · exact ⟨_, _, rfl⟩
theorem OwnM.lt {w : World} {base : Nat} {e : TypeId} {v : Value} {l : List UInt8} (h : OwnM w base e v l) : ∀ k, v.ownBlock = some k → base ≤ k ∧ k < w.heap.size := by
  intro k hk
  rcases h with ⟨rfl, rfl⟩ | ⟨g, cap, cur, fz, rfl, hb, hg, _⟩
  · simp [Value.ownBlock] at hk
  · simp [Value.ownBlock] at hk
    subst hk
    exact ⟨hb, (Array.getElem?_eq_some_iff.1 hg).1⟩
theorem OwnM.kept {w w' : World} {base : Nat} {e : TypeId} {v : Value} {l : List UInt8} (h : OwnM w base e v l) (hk : ∀ g, v.ownBlock = some g → w'.heap[g]? = w.heap[g]?) : OwnM w' base e v l := by
  rcases h with h | ⟨g, cap, cur, fz, rfl, hb, hg, rest⟩
  · exact .inl h
  · exact .inr ⟨g, cap, cur, fz, rfl, hb, (hk g rfl).trans hg, rest⟩
theorem OwnM.below {w w' : World} {base B : Nat} {e : TypeId} {v : Value} {l : List UInt8} (h : OwnM w base e v l) (hb : Below B w w') (hB : w.heap.size ≤ B) : OwnM w' base e v l :=
  h.kept fun g hg => hb.block g (by have := (h.lt g hg).2; omega)
theorem OwnM.alloc {w : World} {base : Nat} {e : TypeId} {v : Value} {l : List UInt8} (h : OwnM w base e v l) (o : Obj) : OwnM (w.alloc o) base e v l :=
  h.kept fun g hg => heap_alloc_old w o (h.lt g hg).2
theorem OwnM.grown {w w' : World} {base : Nat} {e : TypeId} {v : Value} {l : List UInt8} {row : Option Nat} (h : OwnM w base e v l) (hg : w.grownBy w' row) (hne : v.ownBlock = none ∨ v.ownBlock ≠ row) : OwnM w' base e v l :=
  h.kept fun g hk => hg.block g (h.lt g hk).2 (by
    rcases hne with hn | hn
    · rw [hn] at hk; cases hk
    · rw [← hk]; exact hn)
theorem OwnM.conv {P : Program} {w : World} {base : Nat} {v : Value} {l : List UInt8} {e : TypeId} (src dst : TypeId) (hs : P.underlying src = some (.slice e)) (he : P.underlying e = some (.int .u8)) (hd : P.underlying dst = some .string)
    (h : OwnM w base e v l) : (convert src dst v).run P w = .ok (.string ⟨l.toArray⟩) w := by
  rcases h with ⟨rfl, rfl⟩ | ⟨g, cap, cur, fz, rfl, _, hg, _, _, _, _, ht⟩
  · rw [run_convert_bytes_string w src dst e none 0 0 hs he hd]
    simp [Conv.bytesToString, Sem.run_pure]
    rfl
  · have hz : (⟨l.toArray⟩ : ByteArray).size = l.length := by simp [ByteArray.size]
    have hc : cellsB ⟨l.toArray⟩ = cellsC l := by simp [cellsB, cellsC]
    have := Lib.run_convert_whole w src e dst hs he hd g 0 ⟨l.toArray⟩ (bytes_of_cells (cs := cur.toList) (fr := fz) _ (by simpa using hg) (by rw [hz, hc]; simpa using ht)) cap
    rw [hz] at this
    exact this
/-- '[]byte(s)' -/
theorem OwnM.made {P : Program} (w : World) (src dst e : TypeId) (s : ByteArray) {u : TypeDesc} (base : Nat) (hs : P.underlying src = some u) (hd : P.underlying dst = some (.slice e)) (he : P.underlying e = some (.int .u8)) (hb : base ≤ w.heap.size) (hm : s.size ≤ maxLen) :
    ∃ v w', (convert src dst (.string s)).run P w = .ok v w' ∧ OwnM w' base e v s.data.toList ∧ Below w.heap.size w w' ∧ w'.heap.size = w.heap.size + 1 ∧ v.ownBlock = some w.heap.size := by
  have hge : s.size ≤ grownCap w s.size 0 e := grownCap_ge w s.size 0 e
  have hle : grownCap w s.size 0 e ≤ maxLen := grownCap_le_maxLen w s.size 0 e hm
  have hsz : (Lib.bytesCells w e s).size = grownCap w s.size 0 e := by
    unfold Lib.bytesCells
    rw [Array.size_append, Array.size_map, Array.size_replicate]
    show s.size + _ = _
    omega
  refine ⟨_, _, Lib.run_convert_string_bytes w src dst e s hs hd he, .inr ⟨w.heap.size, _, _, _, ?_, hb, Lib.bytesWorld_at_new w e s, .inr ?_, ?_, hle, hsz, ?_⟩, ⟨rfl, rfl, rfl, by rw [Lib.bytesWorld_size]; omega, fun k hk => Lib.bytesWorld_at_old w e s k hk⟩, Lib.bytesWorld_size w e s, rfl⟩
  · rw [Array.length_toList]; rfl
  · show _ ≤ (Lib.bytesCells w e s).size
    omega
  · rw [Array.length_toList]; exact hge
  · unfold Lib.bytesCells cellsC
    rw [Array.toList_append, Array.toList_map]
    exact List.take_left' (by rw [List.length_map])
/-- a byte behind a row -/
theorem OwnM.append {P : Program} (w : World) (base : Nat) (t ty e : TypeId) (i : TypeInfo) (z : Value) (ht : P.underlying t = some (.slice e)) (hi : P.info? e = some i) (hz : i.zero = some z)
    (hsize : i.size = 1) (hby : i.bytes = 1) (hzs : z.cells.size = 1) (v : Value) (l : List UInt8) (hown : OwnM w base e v l) (a : Addr) (c : Nat) (x : UInt8) (hx : w.cell? (a.add 0) = some (.int .u8 (x.toNat : Int))) (hl : l.length ≤ 1000000) (hbase : base ≤ w.heap.size) :
    ∃ v' w', (Builtin.append_ #[t, t] ty #[v, .slice (some a) 1 c]).run P w = .ok v' w' ∧ OwnM w' base e v' (l ++ [x]) ∧ w.grownBy w' v.ownBlock ∧ (v'.ownBlock = v.ownBlock ∨ ∃ k, v'.ownBlock = some k ∧ w.heap.size ≤ k) := by
  have hnews : ∀ j u, [Value.int .u8 (x.toNat : Int)][j]? = some u → w.cell? (a.add j) = some u := by
    intro j u h
    match j, h with
    | 0, h => simp at h; subst h; exact hx
  have h1 : ∀ u ∈ [Value.int .u8 (x.toNat : Int)], u.oneCell' = true := by intro u hu; simp at hu; subst hu; rfl
  have hcx : cellsC l ++ [Value.int .u8 (x.toNat : Int)] = cellsC (l ++ [x]) := by simp [cellsC]
  rcases hown with ⟨rfl, rfl⟩ | ⟨g, cap, cur, fz, rfl, hbg, hg, hfz, hnc, hcm, hcs, htake⟩
  · obtain ⟨v', w', r1, r2, r3, r4⟩ := run_append_own (P := P) w w.heap.size t ty e i z 1 1 ht hi hz hsize hby hzs (by decide) (.slice none 0 0) 0 [] ⟨by simp, .inl ⟨rfl, rfl⟩⟩ a 1 c _ rfl hnews h1 (by unfold maxLen; omega) (by omega) (Nat.le_refl _)
    refine ⟨v', w', r1, OwnM.mono (.own r2) hbase, r3, ?_⟩
    cases hq : v'.ownBlock with
    | none => exact .inl rfl
    | some k => exact .inr ⟨k, rfl, (r2.lt k hq).1⟩
  · by_cases hroom : l.length + 1 ≤ cap
    · have hf := run_firstCells_some (P := P) w 1 1 a 1 c [Value.int .u8 (x.toNat : Int)] rfl hnews
      have hlt : l.length < cur.size := by omega
      have hcell : w.cell? ⟨g, l.length, none⟩ = some cur[l.length] := by simp [World.cell?, hg, hlt]
      have hfro : w.frozen? ⟨g, l.length, none⟩ = false := by
        obtain ⟨lo, hi'⟩ := fz
        simp only [World.frozen?, hg, Bool.and_eq_false_iff, decide_eq_false_iff_not]
        rcases hfz with h | h
        · cases h; right; omega
        · left; simp only at h; omega
      have hst : (storeCells ⟨g, l.length, none⟩ [Value.int .u8 (x.toNat : Int)] 0).run P w = .ok () (w.setRow g (cur.setIfInBounds l.length (.int .u8 (x.toNat : Int)))) := by
        have hadd : (⟨g, l.length, none⟩ : Addr).add 0 = ⟨g, l.length, none⟩ := by unfold Addr.add; split <;> simp_all
        simp only [storeCells, Sem.run_bind]
        rw [hadd, run_store P w _ _ _ rfl, hcell]
        simp [hfro, setCell_eq_setRow w g l.length cur e fz _ hg]
      refine ⟨.slice (some ⟨g, 0, none⟩) (l.length + 1) cap, w.setRow g (cur.setIfInBounds l.length (.int .u8 (x.toNat : Int))), ?_, .inr ⟨g, cap, _, fz, by rw [List.length_append]; rfl, hbg, setRow_heap w g cur _ e _ hg, hfz, by rw [List.length_append]; exact hroom, hcm, by simpa using hcs, ?_⟩, ⟨rfl, rfl, rfl, by simp, fun k _ hk => setRow_other w g k _ (fun e => hk (by simp [Value.ownBlock, e]))⟩, .inl rfl⟩
      · simp [Builtin.append_, run_underlying ht, sizeOf, typeInfo, hi, hsize, Builtin.lenOf, hroom, hf, Addr.add_lit, hst]
      · rw [← hcx, ← htake, List.length_append]
        have := take_set (cs := cur.toList) (k := l.length) (.int .u8 (x.toNat : Int)) (by simpa using hlt)
        simpa using this
    · have holds : ∀ j u, (cellsC l)[j]? = some u → w.cell? ((⟨g, 0, none⟩ : Addr).add j) = some u := by
        intro j u hu
        have hadd : (⟨g, 0, none⟩ : Addr).add j = ⟨g, j, none⟩ := by unfold Addr.add; split <;> simp_all
        rw [hadd, cell_of_row w g j cur e fz hg]
        rw [← htake, List.getElem?_take] at hu
        split at hu
        · simpa using hu
        · cases hu
      have hr := run_append_grow (P := P) w t ty e i z ht hi hz ⟨g, 0, none⟩ l.length cap (cellsC l) (by rw [hsize, cellsC_length]; omega) holds a 1 c [Value.int .u8 (x.toNat : Int)] (by rw [hsize]; rfl) hnews (by omega) (by omega) (growslice_fits (by omega) (by rw [hby]; omega))
      have hge := grownCap_ge w (l.length + 1) cap e
      have hcm2 : grownCap w (l.length + 1) cap e ≤ maxLen := grownCap_le_maxLen w (l.length + 1) cap e (by unfold maxLen; omega)
      refine ⟨_, _, hr, .inr ⟨w.heap.size, _, _, (0, 0), by rw [List.length_append]; rfl, hbase, heap_alloc_new w.drew _, .inl rfl, by rw [List.length_append]; exact hge, hcm2, ?_, ?_⟩, ⟨rfl, rfl, rfl, by simp, fun k hk _ => heap_alloc_old w.drew _ hk⟩, .inr ⟨w.heap.size, rfl, Nat.le_refl _⟩⟩
      · simp only [Array.size_append, List.size_toArray, size_zeroCells, hzs, cellsC_length, List.length_cons, List.length_nil]
        omega
      · simp only [Array.toList_append, List.append_assoc]
        rw [← hcx, ← List.append_assoc, List.length_append]
        exact List.take_left' (by rw [List.length_append, cellsC_length]; rfl)
theorem wpList_append_M {P : Program} {w : World} {ops : Array Oper} {rest : List Oper} {o : Oper} {a : Act} {Q : Exit → Act → World → Prop} (hgd : o.guard = none) (s x : Operand) (t : TypeId)
    (ho : o.op = .call { callee := .builtin .append, args := #[s, x], argTypes := #[t, t] })
    (base : Nat) (e : TypeId) (i : TypeInfo) (z : Value) (ht : P.underlying t = some (.slice e)) (hi : P.info? e = some i) (hz : i.zero = some z) (hsize : i.size = 1) (hby : i.bytes = 1) (hzs : z.cells.size = 1)
    (v : Value) (l : List UInt8) (hs : a.eval s = v) (hown : OwnM w base e v l) (ad : Addr) (c : Nat) (b : UInt8) (hx : a.eval x = .slice (some ad) 1 c) (hcell : w.cell? (ad.add 0) = some (.int .u8 (b.toNat : Int))) (hl : l.length ≤ 1000000) (hbase : base ≤ w.heap.size)
    (h : ∀ v' w', OwnM w' base e v' (l ++ [b]) → w.grownBy w' v.ownBlock → (v'.ownBlock = v.ownBlock ∨ ∃ k, v'.ownBlock = some k ∧ w.heap.size ≤ k) → wpList P ops Q rest (a.put o.dst v') w') : wpList P ops Q (o :: rest) a w := by
  refine wpList_plain hgd fun K hK => ?_
  obtain ⟨v', w', hr, h2, h3, h4⟩ := OwnM.append (P := P) w base t o.type e i z ht hi hz hsize hby hzs v l hown ad c b hcell hl hbase
  unfold Oper.wp execOp
  simp only [ho, resolve, invoke, builtin, Sem.run_bind, Sem.run_pure, Result.andThen_ok, List.map_toArray, List.map_cons, List.map_nil, hs, hx, hr]
  exact hK _ _ (h v' w' h2 h3 h4)
end Go.Proofs.Ytineecongiplgaa
/- OWN ROWS of bytes told by their numbers: read, written, and turned to a text. -/
namespace Go.Proofs.Ytineecongiplgaa
open Go.RowKit
set_option linter.unusedVariables false

def OwnU (w : World) (base : Nat) (v : Value) (zs : List Int) : Prop := w.ownsRow base 5 1 v zs.length (zs.map (Value.int .u8))
theorem OwnU.cell {w : World} {base : Nat} {a : Option Addr} {n cap : Nat} {zs : List Int} (h : OwnU w base (.slice a n cap) zs) (k : Nat) (hk : k < zs.length) : ∃ g, a = some ⟨g, 0, none⟩ ∧ base ≤ g ∧ g < w.heap.size ∧ w.cell? ⟨g, k, none⟩ = some (.int .u8 zs[k]) ∧ w.frozen? ⟨g, k, none⟩ = false := by
  obtain ⟨_, ⟨h1, h0⟩ | ⟨g, cap, cur, h1, hb, hg, _, _, _, ht⟩⟩ := h
  · omega
  · cases h1
    have hg' := (Array.getElem?_eq_some_iff.1 hg).1
    have e : cur[k]? = some (.int .u8 zs[k]) := by
      have : (cur.toList.take (zs.length * 1))[k]? = some (.int .u8 zs[k]) := by rw [ht, List.getElem?_map, List.getElem?_eq_getElem hk]; rfl
      rw [List.getElem?_take_of_lt (by omega)] at this
      simpa using this
    exact ⟨g, rfl, hb, hg', by simp [World.cell?, hg, e], by simp [World.frozen?, hg]⟩
theorem OwnU.below {w w' : World} {base : Nat} {v : Value} {zs : List Int} (h : OwnU w base v zs) (hb : Below w.heap.size w w') : OwnU w' base v zs := by
  refine ⟨h.1, h.2.imp id ?_⟩
  rintro ⟨g, cap, cur, e1, e2, e3, e4⟩
  exact ⟨g, cap, cur, e1, e2, (hb.block g (Array.getElem?_eq_some_iff.1 e3).1).trans e3, e4⟩
theorem OwnU.set {w : World} {base g n cap : Nat} {zs : List Int} (h : OwnU w base (.slice (some ⟨g, 0, none⟩) n cap) zs) (j : Nat) (hj : j < zs.length) (m : Int) : OwnU (w.setCell ⟨g, j, none⟩ (.int .u8 m)) base (.slice (some ⟨g, 0, none⟩) n cap) (zs.set j m) := by
  obtain ⟨h0, ⟨h1, _⟩ | ⟨g, cap, cur, h1, hb, hg, h2, h3, h4, ht⟩⟩ := h
  · cases h1
  · cases h1
    refine ⟨by simp, .inr ⟨g, cap, cur.setIfInBounds j (.int .u8 m), by rw [List.length_set], hb, ?_, by rw [List.length_set]; exact h2, h3, by simpa using h4, ?_⟩⟩
    · rw [setCell_eq_setRow w g j cur _ (0, 0) _ hg, setRow_heap w g cur _ _ _ hg]
    · rw [List.length_set, Array.toList_setIfInBounds, List.take_set, ht, List.map_set]
theorem OwnU.text {w : World} {base : Nat} {v : Value} {l : List UInt8} (h : OwnU w base v (l.map fun b => (b.toNat : Int))) : (convert 22 9 v).run Try.prog w = .ok (.string ⟨l.toArray⟩) w := by
  refine OwnM.conv _ _ Try.underlying22 Try.underlying5 Try.underlying9 (OwnM.own (w := w) (base := base) ?_)
  have := h
  unfold OwnU at this
  rw [List.length_map, List.map_map] at this
  exact this
theorem info8 : (Try.prog.info? 5).map (fun i => (i.zero, i.size, i.bytes)) = some (some (.int .u8 0), 1, 1) := by kernel_rfl
theorem zeros_list8 (n : Nat) : (madeCells (Value.int .u8 0).cells (n * 1)).toList = (List.replicate n (0 : Int)).map (Value.int .u8) := by
  rw [show (Value.int .u8 0).cells = #[Value.int .u8 0] from rfl, toList_madeCells_one, List.map_replicate, Nat.mul_one]
end Go.Proofs.Ytineecongiplgaa
