/- A QUESTION THAT CAME IN: opened; copied, counted and held against another by the law itself. -/
import Derived.Test.YtfpibedloodjlaaIntsIn
import Derived.Test.YtfpibedloodjlaaPlainAsk
import Derived.Test.YtfpibedloodjlaaBox
import Derived.WalkKit
import Derived.WalkSpells
import Derived.Outline
import Derived.Below
import Derived.OpenShut
import Derived.ShutString
import Derived.ChangeOld
import Derived.Lib.SmallJoins
import Derived.Deep.RegionHeld3
import Derived.Deep.DeepCutAuto
namespace Go.Proofs.Ytfpibedloodjlaa
open Go.RowKit Go.ChangeShapes Go.WideShapes Go.ChangeAt
set_option linter.unusedVariables false
set_option linter.unusedSimpArgs false

theorem array4q {α : Type} {cs : Array α} (h : cs.size = 4) : ∃ c0 c1 c2 c3, cs = #[c0, c1, c2, c3] := by
  obtain ⟨l⟩ := cs
  match l, h with
  | [c0, c1, c2, c3], _ => exact ⟨c0, c1, c2, c3, rfl⟩
theorem list4q {α : Type} {l : List α} (h : l.length = 4) : ∃ c0 c1 c2 c3, l = [c0, c1, c2, c3] := by
  match l, h with
  | [c0, c1, c2, c3], _ => exact ⟨c0, c1, c2, c3, rfl⟩
theorem cellsIq : Try.prog.cellsOf 2 = 1 := by kernel_rfl
theorem cellsRq : Try.prog.cellsOf 23 = 1 := by kernel_rfl
theorem cellsAk : Try.prog.cellsOf 41 = 4 := by kernel_rfl
theorem open_ask {H : Type} {enc : TypeId × Value → H} {W : World} {base b0 : Nat} {held : Bool} {r : Reach} {v : Value} {d : DataW H} {pl : List MemPlace}
    (hv : Value.okWide Try.prog W r b0 41 v) (h : DataW.Trod enc Try.prog W base (fun _ => true) held 41 v d pl) :
    ∃ (q : Ak) (p : Option Addr) (c : Nat), v = .agg #[.int .i64 q.c, .int .i64 q.a, .int .i64 q.m, .slice p q.vs.length c] ∧ InI W p q.vs := by
  obtain ⟨cs, rfl, hsz⟩ := okWide_struct Try.underlying41 hv
  obtain ⟨c0, c1, c2, c3, rfl⟩ := array4q (hsz.trans cellsAk)
  obtain ⟨fuel, hf⟩ := h
  obtain ⟨xs, n, _, _, hl, hlen, hfl⟩ := DataW.trod_struct Try.underlying41 hf
  obtain ⟨y0, y1, y2, y3, rfl⟩ := list4q hlen
  have h0 : DataW.trod enc Try.prog W base (fun _ => true) held n 2 [c0] = some y0 := by have := hfl 0 _ rfl; simpa [Value.cells, cellsIq] using this
  have h1 : DataW.trod enc Try.prog W base (fun _ => true) held n 2 [c1] = some y1 := by have := hfl 1 _ rfl; simpa [Value.cells, cellsIq] using this
  have h2 : DataW.trod enc Try.prog W base (fun _ => true) held n 2 [c2] = some y2 := by have := hfl 2 _ rfl; simpa [Value.cells, cellsIq] using this
  have h4 : DataW.trod enc Try.prog W base (fun _ => true) held n 23 [c3] = some y3 := by have := hfl 3 _ rfl; simpa [Value.cells, cellsRq] using this
  obtain ⟨k, q0, _, _⟩ := DataW.trod_int Try.underlying2 h0
  obtain ⟨f, q1, _, _⟩ := DataW.trod_int Try.underlying2 h1
  obtain ⟨t, q2, _, _⟩ := DataW.trod_int Try.underlying2 h2
  cases q0; cases q1; cases q2
  obtain ⟨a, len, cap, ys, e7, hrow⟩ : ∃ a len cap zs, c3 = .slice a len cap ∧ IsRowN .i64 W a len cap zs := by
    rcases open_ints Try.underlying23 Try.underlying2 cellsIq h4 with ⟨hcs, _⟩ | ⟨x, l, c, zs, hcs, _, hl, hm, hz, _, hcell, hwz⟩
    · simp at hcs
      exact ⟨none, 0, 0, [], hcs, .inl ⟨rfl, rfl, rfl, rfl⟩⟩
    · simp at hcs
      exact ⟨some x, l, c, zs, hcs, .inr ⟨_, rfl, hl, hm, by simpa using hz, hcell, hwz⟩⟩
  subst e7
  obtain ⟨ws, rfl, hini, _⟩ := hrow.ini
  exact ⟨⟨k, f, t, ws⟩, a, cap, rfl, hini⟩
set_option maxRecDepth 100000 in
theorem szAsk_any (q : Ak) (p : Option Addr) (c : Nat) (w : World) (hn : q.vs.length ≤ 9223372036854775807) :
    Calls Try.prog 24 #[.agg #[.int .i64 q.c, .int .i64 q.a, .int .i64 q.m, .slice p q.vs.length c], .int .i64 1048576] w fun x w' => x = .returned (.int .i64 (if q.vs.length ≤ 1048576 then 1048576 - (q.vs.length : Int) else -1)) ∧ Below w.heap.size w w' := by
  have HI : Hid (∀ W : World, Calls Try.prog 58 #[.slice p q.vs.length c, .int .i64 1048576] W fun x w' => x = .returned (.int .i64 (if q.vs.length ≤ 1048576 then 1048576 - (q.vs.length : Int) else -1)) ∧ W = w') := fun W => szInt64S_any p q.vs.length c W hn
  generalize q.vs.length = n at hn HI ⊢
  by_cases h : n ≤ 1048576
  · rw [if_pos h] at HI ⊢
    have h1 : ¬ (1048576 : Int) - (n : Int) < 0 := by omega
    go_enter Try.func24, Try.ntmps24
    go_wp2_with (go_at_call 58; refine (HI.out _).mono ?_; rintro e w1 ⟨rfl, rfl⟩)
    go_ret
    exact ⟨rfl, all_alloc _ _⟩
  · rw [if_neg h] at HI ⊢
    go_enter Try.func24, Try.ntmps24
    go_wp2_with (go_at_call 58; refine (HI.out _).mono ?_; rintro e w1 ⟨rfl, rfl⟩)
    go_ret
    exact ⟨rfl, all_alloc _ _⟩
set_option maxRecDepth 100000 in
set_option maxHeartbeats 800000 in
theorem eqAsk_same (q : Ak) (v1 v2 : Value) (w : World) (hl : q.vs.length ≤ 10000000) (h1 : RowI w v1 q.vs) (h2 : RowI w v2 q.vs) :
    Calls Try.prog 26 #[.agg #[.int .i64 q.c, .int .i64 q.a, .int .i64 q.m, v1], .agg #[.int .i64 q.c, .int .i64 q.a, .int .i64 q.m, v2]] w fun x w' => x = .returned (.bool true) ∧ Below w.heap.size w w' := by
  have e0 : (q.c != q.c) = false := by simp
  have e1 : (q.a != q.a) = false := by simp
  have e2 : (q.m != q.m) = false := by simp
  have HE : Hid (∀ W, Below w.heap.size w W → Calls Try.prog 31 #[v1, v2] W fun e w' => e = .returned (.bool true) ∧ Below W.heap.size W w') := fun W hW => eqInt64S_same v1 v2 q.vs W hl (h1.below hW) (h2.below hW)
  obtain ⟨p1, c1, rfl, _⟩ := h1
  obtain ⟨p2, c2, rfl, _⟩ := h2
  have hA0 : Below w.heap.size w ((w.alloc (.cells #[.int .i64 q.c, .int .i64 q.a, .int .i64 q.m, .slice p1 q.vs.length c1] 25)).alloc (.cells #[.int .i64 q.c, .int .i64 q.a, .int .i64 q.m, .slice p2 q.vs.length c2] 25)) := keepB (all_alloc _ _) (Nat.le_refl _) (all_alloc _ _)
  go_enter Try.func26, Try.ntmps26
  go_wp2_with (go_at_call 31; refine (HE.out _ hA0).mono ?_; rintro e w2 ⟨rfl, hb2⟩)
  go_ret
  exact ⟨rfl, keepB hA0 (Nat.le_refl _) hb2⟩
theorem OwnI.farQ {w : World} {base : Nat} {v : Value} {zs : List Int} (h : OwnI w base v zs) {a : Addr} (ha : a.block < base) (x : Value) : OwnI (w.setCell a x) base v zs := by
  refine ⟨h.1, h.2.imp id ?_⟩
  rintro ⟨g, cap, cur, e1, e2, e3, e4⟩
  exact ⟨g, cap, cur, e1, e2, (Below.heap_setCell _ _ _ _ (by omega)).trans e3, e4⟩
theorem OwnI.leQ {w : World} {base B : Nat} {v : Value} {zs : List Int} (h : OwnI w base v zs) (hB : B ≤ base) : OwnI w B v zs := by
  refine ⟨h.1, h.2.imp id ?_⟩
  rintro ⟨g, cap, cur, e1, e2, e3⟩
  exact ⟨g, cap, cur, e1, Nat.le_trans hB e2, e3⟩
set_option maxRecDepth 100000 in
set_option maxHeartbeats 1600000 in
theorem toAsk_any (q : Ak) (p : Option Addr) (c : Nat) (w : World) (hl : q.vs.length ≤ 1048576) (hin : InI w p q.vs) :
    Calls Try.prog 25 #[.agg #[.int .i64 q.c, .int .i64 q.a, .int .i64 q.m, .slice p q.vs.length c]] w fun x w' => ∃ v, x = .returned (.agg #[.int .i64 q.c, .int .i64 q.a, .int .i64 q.m, v]) ∧ OwnI w' w.heap.size v q.vs ∧ Below w.heap.size w w' := by
  have HI : Hid (∀ W, Below w.heap.size w W → Calls Try.prog 30 #[.slice p q.vs.length c] W fun e w' => ∃ v, e = .returned v ∧ OwnI w' W.heap.size v q.vs ∧ Below W.heap.size W w') := fun W hW => toInt64S_any p c q.vs W hl (hin.below hW)
  clear hin
  go_enter Try.func25, Try.ntmps25
  go_upto_region 5 with fail
  have hX : Hid _ := blk (blk (heap_alloc_new w (.cells #[.int .i64 q.c, .int .i64 q.a, .int .i64 q.m, .slice p q.vs.length c] 41)) (all_alloc _ (.cells #[.int .i64 0, .int .i64 0, .int .i64 0, .slice none 0 0] 25))) (all_alloc _ (.cells #[.int .i64 q.c, .int .i64 q.a, .int .i64 q.m, .slice none 0 0] 25))
  have hY : Hid _ := blk (heap_alloc_new (w.alloc (.cells #[.int .i64 q.c, .int .i64 q.a, .int .i64 q.m, .slice p q.vs.length c] 41)) (.cells #[.int .i64 0, .int .i64 0, .int .i64 0, .slice none 0 0] 25)) (all_alloc _ (.cells #[.int .i64 q.c, .int .i64 q.a, .int .i64 q.m, .slice none 0 0] 25))
  have hZ : Hid _ := heap_alloc_new ((w.alloc (.cells #[.int .i64 q.c, .int .i64 q.a, .int .i64 q.m, .slice p q.vs.length c] 41)).alloc (.cells #[.int .i64 0, .int .i64 0, .int .i64 0, .slice none 0 0] 25)) (.cells #[.int .i64 q.c, .int .i64 q.a, .int .i64 q.m, .slice none 0 0] 25)
  have hA0 : Below w.heap.size w (((w.alloc (.cells #[.int .i64 q.c, .int .i64 q.a, .int .i64 q.m, .slice p q.vs.length c] 41)).alloc (.cells #[.int .i64 0, .int .i64 0, .int .i64 0, .slice none 0 0] 25)).alloc (.cells #[.int .i64 q.c, .int .i64 q.a, .int .i64 q.m, .slice none 0 0] 25)) := keepB (keepB (all_alloc w _) (Nat.le_refl _) (all_alloc _ _)) (Nat.le_refl _) (all_alloc _ _)
  have e1 : (w.alloc (.cells #[.int .i64 q.c, .int .i64 q.a, .int .i64 q.m, .slice p q.vs.length c] 41)).heap.size = w.heap.size + 1 := by simp
  have e2 : ((w.alloc (.cells #[.int .i64 q.c, .int .i64 q.a, .int .i64 q.m, .slice p q.vs.length c] 41)).alloc (.cells #[.int .i64 0, .int .i64 0, .int .i64 0, .slice none 0 0] 25)).heap.size = w.heap.size + 1 + 1 := by simp
  have e3 : (((w.alloc (.cells #[.int .i64 q.c, .int .i64 q.a, .int .i64 q.m, .slice p q.vs.length c] 41)).alloc (.cells #[.int .i64 0, .int .i64 0, .int .i64 0, .slice none 0 0] 25)).alloc (.cells #[.int .i64 q.c, .int .i64 q.a, .int .i64 q.m, .slice none 0 0] 25)).heap.size = w.heap.size + 1 + 1 + 1 := by simp
  rw [e1] at hY
  rw [e2] at hZ
  generalize ((w.alloc (.cells #[.int .i64 q.c, .int .i64 q.a, .int .i64 q.m, .slice p q.vs.length c] 41)).alloc (.cells #[.int .i64 0, .int .i64 0, .int .i64 0, .slice none 0 0] 25)).alloc (.cells #[.int .i64 q.c, .int .i64 q.a, .int .i64 q.m, .slice none 0 0] 25) = A at hX hY hZ hA0 e3 ⊢
  clear e1 e2
  have x3 := cellW hX.out 3 _ rfl A (Below.refl _ _)
  go_wp2_with (go_at_call 30; refine (HI.out _ hA0).mono ?_; rintro e w2 ⟨v, rfl, hown, hb2⟩; obtain ⟨pv, cv, rfl⟩ := hown.shape; have hY2 : Hid _ := blk hY.out hb2; have hZ2 : Hid _ := blk hZ.out hb2; have z0 := cellW hZ2.out 0 _ rfl w2 (Below.refl _ _); have z1 := cellW hZ2.out 1 _ rfl w2 (Below.refl _ _); have z2 := cellW hZ2.out 2 _ rfl w2 (Below.refl _ _); have z3 := cellW hZ2.out 3 _ rfl w2 (Below.refl _ _); have f3 := frozenW hZ2.out 3 w2 (Below.refl _ _); have y0 := cellW hY2.out 0 _ rfl w2 (Below.refl _ _); have y1 := cellW hY2.out 1 _ rfl w2 (Below.refl _ _); have y2 := cellW hY2.out 2 _ rfl w2 (Below.refl _ _); have y3 := cellW hY2.out 3 _ rfl w2 (Below.refl _ _); have g0 := frozenW hY2.out 0 w2 (Below.refl _ _); have g1 := frozenW hY2.out 1 w2 (Below.refl _ _); have g2 := frozenW hY2.out 2 w2 (Below.refl _ _); have g3 := frozenW hY2.out 3 w2 (Below.refl _ _))
  have hB2 : Below w.heap.size w w2 := keepB hA0 (Nat.le_refl _) hb2
  exact bodyPost_ret (v := .agg #[.int .i64 q.c, .int .i64 q.a, .int .i64 q.m, .slice pv q.vs.length cv]) (by simp [results, Try.results25, go_sem, y0, y1, y2, y3]) rfl ⟨_, rfl, OwnI.leQ (OwnI.farQ (OwnI.farQ (OwnI.farQ (OwnI.farQ (OwnI.farQ hown (by simp only; omega) _) (by simp only; omega) _) (by simp only; omega) _) (by simp only; omega) _) (by simp only; omega) _) (by omega), (Below.setCell (Below.setCell (Below.setCell (Below.setCell (Below.setCell hB2 (by simp only; omega) _) (by simp only; omega) _) (by simp only; omega) _) (by simp only; omega) _) (by simp only; omega) _)⟩
end Go.Proofs.Ytfpibedloodjlaa
