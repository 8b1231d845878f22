/- THE LAW'S OWN QUESTIONS of what was answered: the same, marked, still marked. -/
import Derived.Test.YtfpibedloodjlabDoorSvL
import Derived.Stop.LaidErr
import Derived.MakeChecks
namespace Go.Proofs.YtfpibedloodjlabDoor
open Go.RowKit
set_option linter.unusedVariables false
set_option linter.unusedSimpArgs false

set_option maxRecDepth 100000 in
set_option maxHeartbeats 800000 in
theorem eqServeOut_same (T : Tb) (R : ByteArray) (k : Int) (a1 a2 b1 b2 : Value) (w : World) (hl1 : T.cs.length ≤ 10000000) (hl2 : T.rs.length ≤ 10000000) (h1 : RowI w a1 T.cs) (h2 : RowI w a2 T.rs) (h3 : RowI w b1 T.cs) (h4 : RowI w b2 T.rs) :
    Calls Tryd.prog 8 #[.agg #[a1, a2, .string R, .int .i64 k], .agg #[b1, b2, .string R, .int .i64 k]] w fun x w' => x = .returned (.bool true) ∧ Below w.heap.size w w' := by
  have HE : Hid (∀ W, Below w.heap.size w W → Calls Tryd.prog 9 #[.agg #[a1, a2], .agg #[b1, b2]] W fun e w' => e = .returned (.bool true) ∧ Below W.heap.size W w') := fun W hW => eqTable_same T a1 a2 b1 b2 W hl1 hl2 (h1.below hW) (h2.below hW) (h3.below hW) (h4.below hW)
  have e1 : (R.toList == R.toList) = true := by simp
  have e2 : (k != k) = false := by simp
  obtain ⟨p1, c1, rfl, x1⟩ := h1
  obtain ⟨p2, c2, rfl, x2⟩ := h2
  obtain ⟨p3, c3, rfl, x3⟩ := h3
  obtain ⟨p4, c4, rfl, x4⟩ := h4
  clear x1 x2 x3 x4
  generalize T.cs.length = n1 at *
  generalize T.rs.length = n2 at *
  have hA0 : Hid (Below w.heap.size w _) := keepB (all_alloc w (.cells #[.slice p1 n1 c1, .slice p2 n2 c2, .string R, .int .i64 k] 28)) (Nat.le_refl _) (all_alloc _ (.cells #[.slice p3 n1 c3, .slice p4 n2 c4, .string R, .int .i64 k] 28))
  have hX : Hid _ := blk (heap_alloc_new w (.cells #[.slice p1 n1 c1, .slice p2 n2 c2, .string R, .int .i64 k] 28)) (all_alloc _ (.cells #[.slice p3 n1 c3, .slice p4 n2 c4, .string R, .int .i64 k] 28))
  have hY : Hid _ := heap_alloc_new (w.alloc (.cells #[.slice p1 n1 c1, .slice p2 n2 c2, .string R, .int .i64 k] 28)) (.cells #[.slice p3 n1 c3, .slice p4 n2 c4, .string R, .int .i64 k] 28)
  rw [show (w.alloc (.cells #[.slice p1 n1 c1, .slice p2 n2 c2, .string R, .int .i64 k] 28)).heap.size = w.heap.size + 1 by simp] at hY
  go_enter Tryd.func8, Tryd.ntmps8
  go_wp2_with (go_at_call 9; refine (HE.out _ hA0.out).mono ?_; rintro e w1 ⟨rfl, hb1⟩; have x2 := cellW hX.out 2 _ rfl w1 hb1; have y2 := cellW hY.out 2 _ rfl w1 hb1; have x3 := cellW hX.out 3 _ rfl w1 hb1; have y3 := cellW hY.out 3 _ rfl w1 hb1)
  go_ret
  exact ⟨rfl, keepB hA0.out (Nat.le_refl _) hb1⟩
set_option maxRecDepth 100000 in
theorem markServeOut_any (T : Tb) (R : ByteArray) (k : Int) (base : Nat) (v1 v2 : Value) (w : World) (hl1 : T.cs.length ≤ 10000) (hl2 : T.rs.length ≤ 10000) (h : OwnT w base v1 v2 T) :
    Calls Tryd.prog 11 #[.agg #[v1, v2, .string R, .int .i64 k], .int .i64 1] w fun e w' => e = .returned (.int .i64 (1 + (T.cs.length : Int) + (T.rs.length : Int))) ∧ OwnT w' base v1 v2 (markT T.cs.length T.rs.length) ∧ Grown2 w w' v1.ownBlock v2.ownBlock := by
  have HM : Hid (∀ W, Below w.heap.size w W → Calls Tryd.prog 10 #[.agg #[v1, v2], .int .i64 1] W fun e w' => e = .returned (.int .i64 (1 + (T.cs.length : Int) + (T.rs.length : Int))) ∧ OwnT w' base v1 v2 (markT T.cs.length T.rs.length) ∧ Grown2 W w' v1.ownBlock v2.ownBlock) := fun W hW => markTable_any T base v1 v2 W (by omega) (by omega) (h.below hW)
  obtain ⟨p1, c1, rfl⟩ := h.c.shape
  obtain ⟨p2, c2, rfl⟩ := h.r.shape
  have hA0 : Below w.heap.size w (w.alloc (.cells #[.slice p1 T.cs.length c1, .slice p2 T.rs.length c2, .string R, .int .i64 k] 28)) := all_alloc _ _
  go_enter Tryd.func11, Tryd.ntmps11
  go_wp2_with (go_at_call 10; refine (HM.out _ hA0).mono ?_; rintro e w1 ⟨rfl, hm, hg⟩)
  go_ret
  exact ⟨rfl, hm, ⟨hg.os.trans hA0.os, hg.tape.trans hA0.tape, hg.output.trans hA0.output, Nat.le_trans hA0.size hg.size, fun i hi h1 h2 => (hg.block i (Nat.lt_of_lt_of_le hi hA0.size) h1 h2).trans (hA0.block i hi)⟩⟩
set_option maxRecDepth 100000 in
theorem heldServeOut_any (n1 n2 : Nat) (R : ByteArray) (k : Int) (base : Nat) (v1 v2 : Value) (w : World) (hl1 : n1 ≤ 10000) (hl2 : n2 ≤ 10000) (h : OwnT w base v1 v2 (markT n1 n2)) :
    Calls Tryd.prog 12 #[.agg #[v1, v2, .string R, .int .i64 k], .int .i64 1] w fun e w' => e = .returned (.int .i64 (1 + (n1 : Int) + (n2 : Int))) ∧ Below w.heap.size w w' := by
  have HM : Hid (∀ W, Below w.heap.size w W → Calls Tryd.prog 30 #[.agg #[v1, v2], .int .i64 1] W fun e w' => e = .returned (.int .i64 (1 + (n1 : Int) + (n2 : Int))) ∧ Below W.heap.size W w') := fun W hW => heldTable_any n1 n2 base v1 v2 W (by omega) (by omega) (h.below hW)
  obtain ⟨p1, c1, rfl⟩ := h.c.shape
  obtain ⟨p2, c2, rfl⟩ := h.r.shape
  generalize (markT n1 n2).cs.length = m1 at *
  generalize (markT n1 n2).rs.length = m2 at *
  have hA0 : Below w.heap.size w (w.alloc (.cells #[.slice p1 m1 c1, .slice p2 m2 c2, .string R, .int .i64 k] 28)) := all_alloc _ _
  have h0 : ¬ (1 : Int) + (n1 : Int) + (n2 : Int) < 0 := by omega
  go_enter Tryd.func12, Tryd.ntmps12
  go_wp2_with (go_at_call 30; refine (HM.out _ hA0).mono ?_; rintro e w1 ⟨rfl, hb⟩)
  go_ret
  exact ⟨rfl, keepB hA0 (Nat.le_refl _) hb⟩
set_option maxRecDepth 100000 in
set_option maxHeartbeats 800000 in
/-- a table marked, however long: only its own rows have turned -/
theorem markTable_grown (t : Tb) (base : Nat) (v1 v2 : Value) (w : World) (hl1 : t.cs.length ≤ 1048576) (hl2 : t.rs.length ≤ 1048576) (h : OwnT w base v1 v2 t) :
    Calls Tryd.prog 10 #[.agg #[v1, v2], .int .i64 1] w fun e w' => ∃ n : Nat, e = .returned (.int .i64 (n : Int)) ∧ Grown2 w w' v1.ownBlock v2.ownBlock := by
  refine (markTable_any t base v1 v2 w (by omega) (by omega) h).mono ?_
  rintro e w' ⟨rfl, _, hg⟩
  exact ⟨1 + t.cs.length + t.rs.length, by first | rfl | (congr 2; try omega), hg⟩
theorem OwnI.keep2 {w w' : World} {base : Nat} {v : Value} {zs : List Int} {r1 r2 : Option Nat} (h : OwnI w base v zs) (g : Grown2 w w' r1 r2) (hne : ∀ k, v.ownBlock = some k → some k ≠ r1 ∧ some k ≠ r2) : OwnI w' base v zs := by
  refine ⟨h.1, h.2.imp id ?_⟩
  rintro ⟨k, cap, cur, e1, e2, e3, e4⟩
  have hk := hne k (by rw [e1]; rfl)
  exact ⟨k, cap, cur, e1, e2, (g.block k (Array.getElem?_eq_some_iff.1 e3).1 hk.1 hk.2).trans e3, e4⟩
/-- blocks of a table's rows lie in a range -/
def InT (v1 v2 : Value) (lo hi : Nat) : Prop := ∀ k, (v1.ownBlock = some k ∨ v2.ownBlock = some k) → lo ≤ k ∧ k < hi
theorem OwnT.inT {w : World} {base : Nat} {v1 v2 : Value} {t : Tb} (h : OwnT w base v1 v2 t) : InT v1 v2 base w.heap.size := fun k hk => hk.elim (fun e => OwnI.lt h.c k e) (fun e => OwnI.lt h.r k e)
theorem OwnT.keep2 {w w' : World} {base : Nat} {v1 v2 u1 u2 : Value} {t : Tb} (h : OwnT w base v1 v2 t) (g : Grown2 w w' u1.ownBlock u2.ownBlock) {l1 h1 l2 h2 : Nat} (hv : InT v1 v2 l1 h1) (hu : InT u1 u2 l2 h2) (hd : h1 ≤ l2 ∨ h2 ≤ l1) : OwnT w' base v1 v2 t := by
  have key : ∀ k, (v1.ownBlock = some k ∨ v2.ownBlock = some k) → some k ≠ u1.ownBlock ∧ some k ≠ u2.ownBlock := fun k hk => by
    have a := hv k hk
    exact ⟨fun e => by have b := hu k (.inl e.symm); omega, fun e => by have b := hu k (.inr e.symm); omega⟩
  exact ⟨h.c.keep2 g (fun k e => key k (.inl e)), h.r.keep2 g (fun k e => key k (.inr e)), h.ne⟩
theorem blk_keep2 {w w' : World} {u1 u2 : Value} {G : Nat} {o : Obj} (h : w.heap[G]? = some o) (g : Grown2 w w' u1.ownBlock u2.ownBlock) {l2 h2 : Nat} (hu : InT u1 u2 l2 h2) (hd : G < l2 ∨ h2 ≤ G) : w'.heap[G]? = some o :=
  (g.block G (Array.getElem?_eq_some_iff.1 h).1 (fun e => by have b := hu G (.inl e.symm); omega) (fun e => by have b := hu G (.inr e.symm); omega)).trans h
theorem outT_len (t : Tb) (s : ByteArray) (h : t.right = true → t.cs.length ≤ 24 ∧ t.rs.length ≤ 12) : (outT t s).1.cs.length ≤ 24 ∧ (outT t s).1.rs.length ≤ 12 := by
  unfold outT
  by_cases h8 : 8000 < s.size
  · rw [if_pos h8]; simp [zeroT]
  · rw [if_neg h8]
    by_cases hb : t.right = false ∨ s.size = 0
    · rw [if_pos hb]; simp [zeroT]
    · rw [if_neg hb]
      have hT : t.right = true := by
        cases hh : t.right with
        | true => rfl
        | false => exact absurd (.inl hh) hb
      obtain ⟨l1, l2⟩ := h hT
      dsimp only
      unfold serveT
      by_cases h0 : badT t s = 0
      · rw [if_pos h0]
        unfold ansT
        by_cases hq : (outA s).1.c = 1 ∨ (outA s).1.c = 3
        · rw [if_pos hq]; exact ⟨l1, l2⟩
        · rw [if_neg hq]
          have hC : (outA s).2 = 0 := by
            by_cases hC : (outA s).2 = 0
            · exact hC
            · unfold badT at h0
              by_cases hk : knownB (byteAt s 0 : Int) = false
              · rw [if_pos hk] at h0; cases h0
              · rw [if_neg hk, if_pos hC] at h0; cases h0
          have hth : (outA s).1.a + (outA s).1.m ≤ ((t.cells (outA s).1.c).length : Int) := by
            unfold badT at h0
            by_cases hk : knownB (byteAt s 0 : Int) = false
            · rw [if_pos hk] at h0; cases h0
            · rw [if_neg hk, if_neg (by rw [hC]; decide)] at h0
              by_cases hgt : (outA s).1.a + (outA s).1.m > ((t.cells (outA s).1.c).length : Int)
              · rw [if_pos hgt] at h0; cases h0
              · omega
          obtain ⟨hR, _, _⟩ := outA_q hC
          have hb := outA_right hC
          obtain ⟨hvl, _⟩ := set_fit hR hq
          have hp := put_lens t (outA s).1 (by omega)
          dsimp only
          omega
      · rw [if_neg h0]; exact ⟨l1, l2⟩
end Go.Proofs.YtfpibedloodjlabDoor
/- WHAT THE THREE SENTINELS' VARIABLES HOLD where the call begins. -/
namespace Go

/-- three sentinels of one type: their pointers differ, and their rows bear no frozen range -/
theorem Proofs.YtfpibedloodjlabDoor.laid_sentinels3 {P : Program} {n0 n1 n2 nm : String} {text0 text1 text2 : List UInt8} {r : List (String × DataW Unit)} {W : World} {g0 g1 g2 : Nat} {ti tp te ts : TypeId} {ms : Array (String × TypeId)} {f : Field}
    (h : laidMet P ((n0, .iface nm (.ptr (.agg [.lit (.string text0)]))) :: (n1, .iface nm (.ptr (.agg [.lit (.string text1)]))) :: (n2, .iface nm (.ptr (.agg [.lit (.string text2)]))) :: r) W)
    (hg0 : P.globalNamed n0 = some g0) (ht0 : (P.globals[g0]?).map (·.type) = some ti) (hg1 : P.globalNamed n1 = some g1) (ht1 : (P.globals[g1]?).map (·.type) = some ti) (hg2 : P.globalNamed n2 = some g2) (ht2 : (P.globals[g2]?).map (·.type) = some ti)
    (hi : P.underlying ti = some (.interface ms)) (hrow : ∀ u, P.typeName? 3 u = some nm → u = tp)
    (hp : P.underlying tp = some (.pointer te)) (he : P.underlying te = some (.struct #[f])) (hft : f.type = ts) (hfo : f.offset = 0) (hs : P.underlying ts = some .string) (hc : P.cellsOf te = 1) (hcs : P.cellsOf ts = 1) :
    ∃ (a0 a1 a2 : Addr),
      W.var? P n0 = some #[.iface tp (.pointer (some a0))] ∧ W.var? P n1 = some #[.iface tp (.pointer (some a1))] ∧ W.var? P n2 = some #[.iface tp (.pointer (some a2))] ∧
      (a0 ≠ a1 ∧ a0 ≠ a2 ∧ a1 ≠ a2) ∧ (∃ c t, W.heap[a0.block]? = some (.cells c t (0, 0))) ∧ (∃ c t, W.heap[a1.block]? = some (.cells c t (0, 0))) ∧ (∃ c t, W.heap[a2.block]? = some (.cells c t (0, 0))) := by
  obtain ⟨ps, ⟨g0', t0', cs0, f0, p0, q0, hg0', ht0', hv0, hd0, ⟨g1', t1', cs1, f1, p1, q1, hg1', ht1', hv1, hd1, ⟨g2', t2', cs2, f2, p2, q2, hg2', ht2', hv2, hd2, _, e2⟩, e1⟩, e0⟩, hnd, hrows⟩ := h
  obtain rfl := Option.some.inj (hg0.symm.trans hg0')
  obtain rfl := Option.some.inj (hg1.symm.trans hg1')
  obtain rfl := Option.some.inj (hg2.symm.trans hg2')
  obtain rfl := Option.some.inj (ht0.symm.trans ht0')
  obtain rfl := Option.some.inj (ht1.symm.trans ht1')
  obtain rfl := Option.some.inj (ht2.symm.trans ht2')
  subst e2
  subst e1
  subst e0
  obtain ⟨l0⟩ := cs0
  obtain ⟨l1⟩ := cs1
  obtain ⟨l2⟩ := cs2
  have ok0 : ∀ u v, l0 = [.iface u v] → Value.okWide P W .any 0 u v := fun u v e => by
    subst e
    exact (hrows g0 0 (by simp [MemPlace.row])).2 u v (by simpa using World.var?_cell hg0' hv0 0)
  have ok1 : ∀ u v, l1 = [.iface u v] → Value.okWide P W .any 0 u v := fun u v e => by
    subst e
    exact (hrows g1 0 (by simp [MemPlace.row])).2 u v (by simpa using World.var?_cell hg1' hv1 0)
  have ok2 : ∀ u v, l2 = [.iface u v] → Value.okWide P W .any 0 u v := fun u v e => by
    subst e
    exact (hrows g2 0 (by simp [MemPlace.row])).2 u v (by simpa using World.var?_cell hg2' hv2 0)
  obtain ⟨a0, s0, rfl, hc0, hs0, hz0, rfl⟩ := errorString_of_trod hi hrow hp he hft hfo hs hc hcs hd0 ok0
  obtain ⟨a1, s1, rfl, hc1, hs1, hz1, rfl⟩ := errorString_of_trod hi hrow hp he hft hfo hs hc hcs hd1 ok1
  obtain ⟨a2, s2, rfl, hc2, hs2, hz2, rfl⟩ := errorString_of_trod hi hrow hp he hft hfo hs hc hcs hd2 ok2
  have hb0 := (hrows a0.block a0.off (by simp [MemPlace.row])).1
  have hb1 := (hrows a1.block a1.off (by simp [MemPlace.row])).1
  have hb2 := (hrows a2.block a2.off (by simp [MemPlace.row])).1
  refine ⟨a0, a1, a2, hv0, hv1, hv2, ⟨?_, ?_, ?_⟩, hb0, hb1, hb2⟩
  · rintro rfl; simp [MemPlace.row] at hnd
  · rintro rfl; simp [MemPlace.row] at hnd
  · rintro rfl; simp [MemPlace.row] at hnd
theorem Proofs.YtfpibedloodjlabDoor.var_below {P : Program} {W W' : World} {n : String} {cs : Array Value} (h : W.var? P n = some cs) (hb : RowKit.Below W.heap.size W W') : W'.var? P n = some cs := by
  unfold World.var? at h ⊢
  cases hg : P.globalNamed n with
  | none => simp [hg] at h
  | some g =>
    simp only [hg, Option.bind_some] at h ⊢
    have hlt : g < W.heap.size := by
      rcases Nat.lt_or_ge g W.heap.size with h' | h'
      · exact h'
      · simp [Array.getElem?_eq_none h'] at h
    rw [hb.block g hlt]
    exact h
end Go
