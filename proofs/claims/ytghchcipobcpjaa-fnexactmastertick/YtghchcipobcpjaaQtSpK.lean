/- A QUESTION ISSUED, the model's, where it takes the question. Written by mkspk.py. -/
import Derived.Test.YtghchcipobcpjaaQtSpJ
namespace Go.Proofs.Ytghchcipobcpjaa
open Go.RowKit
set_option linter.unusedVariables false
set_option linter.unusedSimpArgs false

/-- a row put behind a row, in a region that draws no order -/
theorem wpList_app_rec {α : Type} {m bytes : Nat} {ty sl : TypeId} {i : TypeInfo} {z : Value} (T : RecTy m bytes ty sl i z) {cell : α → List Value} (hm : ∀ x, (cell x).length = m) (h1 : ∀ x, ∀ u ∈ cell x, u.oneCell' = true)
    {w : World} {ops : Array Oper} {rest : List Oper} {o : Oper} {a : Act} {Q : Exit → Act → World → Prop} (hgd : o.guard = none) (s x : Operand) (ho : o.op = .call { callee := .builtin .append, args := #[s, x], argTypes := #[sl, sl] })
    (base : Nat) (v u : Value) (xs zs : List α) (hs : a.eval s = v) (hx : a.eval x = u) (hown : OwnK m ty cell w base v xs) (hrow : RowC m cell w u zs) (hl : xs.length ≤ 1100000) (hz : zs.length ≤ 1100000) (hb : base ≤ w.heap.size)
    (h : ∀ v' w', OwnK m ty cell w' base v' (xs ++ zs) → w.grownBy w' v.ownBlock → (v'.ownBlock = v.ownBlock ∨ v'.ownBlock = some w.heap.size) → wpList Try.prog ops Q rest (a.put o.dst v') w') : wpList Try.prog ops Q (o :: rest) a w := by
  refine wpList_plain hgd fun K hK => ?_
  obtain ⟨v', w', hr, h2, h3, h4⟩ := app_recK T hm h1 w o.type base v u xs zs hown hrow hl hz hb
  unfold Oper.wp execOp
  simp only [ho, resolve, invoke, builtin, Sem.run_bind, Sem.run_pure, Result.andThen_ok, List.map_toArray, List.map_cons, List.map_nil, hs, hx, hr]
  exact hK _ _ (h v' w' h2 h3 h4)
/-- the stretch that holds a row's own block and no other -/
theorem OwnK.tight {α : Type} {m : Nat} {ty : TypeId} {cell : α → List Value} (hm : ∀ x, (cell x).length = m) {w : World} {base : Nat} {v : Value} {l : List α} (h : OwnK m ty cell w base v l) (hb : base ≤ w.heap.size) :
    ∃ lo hi, base ≤ lo ∧ hi ≤ w.heap.size ∧ OwnC m ty cell w lo hi v l ∧ (∀ k, lo ≤ k → k < hi → v.ownBlock = some k) ∧ (lo < hi ∨ hi ≤ base) := by
  have hlt := OwnK.lt h
  obtain ⟨h0, ⟨rfl, e⟩ | ⟨g, cap, cur, rfl, hg, rest⟩⟩ := h
  · exact ⟨base, base, Nat.le_refl _, hb, OwnK.c hm (⟨h0, .inl ⟨rfl, e⟩⟩ : OwnK m ty cell w base _ l) (fun k e => by cases e) hb, fun k h1 h2 => by omega, .inr (Nat.le_refl _)⟩
  · have hz := (hlt g rfl).2
    exact ⟨g, g + 1, hg, hz, OwnK.c hm (⟨h0, .inr ⟨g, cap, cur, rfl, Nat.le_refl _, rest⟩⟩ : OwnK m ty cell w g _ l) (fun k e => by cases e; exact Nat.lt_succ_self _) hz, fun k h1 h2 => by (have e : k = g := by omega); rw [e]; rfl, .inl (Nat.lt_succ_self _)⟩
theorem stretch_apart {u v : Value} {base l1 h1 l2 h2 : Nat} (b1 : base ≤ l1) (b2 : base ≤ l2) (k1 : ∀ k, l1 ≤ k → k < h1 → u.ownBlock = some k) (k2 : ∀ k, l2 ≤ k → k < h2 → v.ownBlock = some k) (e1 : l1 < h1 ∨ h1 ≤ base) (e2 : l2 < h2 ∨ h2 ≤ base) (hap : ∀ a b, u.ownBlock = some a → v.ownBlock = some b → a ≠ b) : h1 ≤ l2 ∨ h2 ≤ l1 := by
  by_cases c1 : h1 ≤ l2
  · exact .inl c1
  by_cases c2 : h2 ≤ l1
  · exact .inr c2
  exfalso
  rcases Nat.le_total l1 l2 with h | h
  · exact hap l2 l2 (k1 l2 h (by omega)) (k2 l2 (Nat.le_refl _) (by omega)) rfl
  · exact hap l1 l1 (k1 l1 (Nat.le_refl _) (by omega)) (k2 l1 h (by omega)) rfl
set_option maxRecDepth 100000 in
set_option maxHeartbeats 12800000 in
theorem specIssue0 (s : Mst) (v1 v2 : Value) (ask : ByteArray) (w : World) (ht : s.tot ≤ 1048576) (hask : ask.size ≤ maxLen) (h : RowMst w v1 v2 s) (h8 : ¬ 8000 < ask.size) (hr : s.right = true) (hB : bodyB ask = true) (hfu : fullB s = false) :
    Calls Try.prog 6 #[.agg #[.int .i64 s.nx, v1, v2], .string ask] w fun e w' => ∃ u1 u2 u3, e = .returned (.agg #[.int .i64 (s.nx + 1), u1, u2, u3, .int .i64 s.nx, .int .i64 0]) ∧ OwnMo w' w.heap.size w'.heap.size u1 u2 u3 ⟨⟨s.nx + 1, s.op ++ [⟨s.nx, ask, 1, 0⟩], s.dn⟩, [letB s.nx ask], s.nx, 0⟩ ∧ Below w.heap.size w w' := by
  obtain ⟨iW, TW⟩ := tyW
  have HTW : Hid _ := TW
  clear TW
  obtain ⟨hl1, hl2, hn1, hn2⟩ := right_len hr
  have hsz := ((bodyB_iff _).1 hB).2
  have hid : idB s.nx = true := (idB_iff _).2 ⟨hn1, hn2⟩
  have hLF : letF s.nx ask = letB s.nx ask := by unfold letB; rw [if_pos ⟨hid, hB⟩]
  have HL : Hid (∀ W, Calls Try.prog 22 #[.int .i64 s.nx, .string ask] W fun e w' => e = .returned (.string (letB s.nx ask)) ∧ Below W.heap.size W w') := fun W => hLF ▸ l09Letter_any s.nx ask W hsz (id_wf hid)
  have HC : Hid (∀ W, Below w.heap.size w W → Calls Try.prog 21 #[.agg #[.int .i64 s.nx, v1, v2]] W fun e w' => ∃ va vd, e = .returned (.agg #[.int .i64 s.nx, va, vd]) ∧ OwnKW w' W.heap.size va s.op ∧ OwnKD w' W.heap.size vd s.dn ∧ Below W.heap.size W w') := fun W hW => l09Copy_any s v1 v2 W (by omega) (by omega) (h.below hW)
  have HR : Hid (∀ W, Below w.heap.size w W → Calls Try.prog 19 #[.agg #[.int .i64 s.nx, v1, v2]] W fun e w' => e = .returned (.bool s.right) ∧ Below W.heap.size W w') := fun W hW => specMasterRight_any s v1 v2 W ht (h.below hW)
  have HF : Hid (∀ W, Calls Try.prog 20 #[.string ask] W fun e w' => e = .returned (.bool (bodyB ask)) ∧ W = w') := fun W => l09Body_any ask W hask
  generalize letB s.nx ask = LB at HL ⊢
  obtain ⟨⟨p1, c1, rfl, _⟩, ⟨p2, c2, rfl, _⟩⟩ := h
  clear ht hLF hid
  have hm := hask
  unfold maxLen at hm
  have hX0 : Hid _ := blk (heap_alloc_new w (.cells #[.int .i64 s.nx, .slice p1 s.op.length c1, .slice p2 s.dn.length c2] 30)) (all_alloc _ (.cells #[.int .i64 0, .slice none 0 0, .slice none 0 0, .slice none 0 0, .int .i64 0, .int .i64 0] 33))
  have hY0 : Hid _ := heap_alloc_new (w.alloc (.cells #[.int .i64 s.nx, .slice p1 s.op.length c1, .slice p2 s.dn.length c2] 30)) (.cells #[.int .i64 0, .slice none 0 0, .slice none 0 0, .slice none 0 0, .int .i64 0, .int .i64 0] 33)
  have hA0 : Below w.heap.size w ((w.alloc (.cells #[.int .i64 s.nx, .slice p1 s.op.length c1, .slice p2 s.dn.length c2] 30)).alloc (.cells #[.int .i64 0, .slice none 0 0, .slice none 0 0, .slice none 0 0, .int .i64 0, .int .i64 0] 33)) := keepB (all_alloc w _) (Nat.le_refl _) (all_alloc _ _)
  have e2 : ((w.alloc (.cells #[.int .i64 s.nx, .slice p1 s.op.length c1, .slice p2 s.dn.length c2] 30)).alloc (.cells #[.int .i64 0, .slice none 0 0, .slice none 0 0, .slice none 0 0, .int .i64 0, .int .i64 0] 33)).heap.size = w.heap.size + 1 + 1 := by simp
  rw [show (w.alloc (.cells #[.int .i64 s.nx, .slice p1 s.op.length c1, .slice p2 s.dn.length c2] 30)).heap.size = w.heap.size + 1 by simp] at hY0
  rw [hr] at HR
  rw [hB] at HF
  have hws : IntKind.i64.wrap ((s.op.length : Int) + (s.dn.length : Int)) = (s.op.length : Int) + (s.dn.length : Int) := by
    have := wrapM (s.op.length + s.dn.length) (by omega)
    simpa using this
  have hfu' : ¬ 3 ≤ s.op.length ∧ ¬ 20 ≤ s.op.length + s.dn.length ∧ ¬ 1000000 ≤ s.nx := by
    unfold fullB at hfu
    simp only [Bool.or_eq_false_iff, decide_eq_false_iff_not] at hfu
    exact hfu
  have h1' : ¬ (3 : Int) ≤ (s.op.length : Int) := by omega
  have h2' : ¬ (20 : Int) ≤ (s.op.length : Int) + (s.dn.length : Int) := by omega
  have h3 : ¬ (1000000 : Int) ≤ s.nx := hfu'.2.2
  clear hfu hfu'
  have hwn : IntKind.i64.wrap (s.nx + 1) = s.nx + 1 := by
    obtain ⟨z, hz⟩ : ∃ z : Nat, s.nx + 1 = (z : Int) := ⟨(s.nx + 1).toNat, by omega⟩
    rw [hz]
    exact wrapM z (by omega)
  go_enter Try.func6, Try.ntmps6
  go_upto_region 1 with fail
  have hX := hX0
  have hY := hY0
  have hA := hA0
  generalize (w.alloc (.cells #[.int .i64 s.nx, .slice p1 s.op.length c1, .slice p2 s.dn.length c2] 30)).alloc (.cells #[.int .i64 0, .slice none 0 0, .slice none 0 0, .slice none 0 0, .int .i64 0, .int .i64 0] 33) = A at hX hY hA e2 ⊢
  clear hX0 hY0 hA0
  have g2 : w.heap.size + 1 + 1 ≤ A.heap.size := by omega
  clear e2
  have x0 := cellW hX.out 0 _ rfl A (Below.refl _ _)
  have x1 := cellW hX.out 1 _ rfl A (Below.refl _ _)
  have x2 := cellW hX.out 2 _ rfl A (Below.refl _ _)
  go_upto_region 7 with (first | (go_at_call 19; refine (HR.out _ hA).mono ?_; rintro e w1 ⟨rfl, hb1⟩; have x0' := cellW hX.out 0 _ rfl w1 hb1; have x1' := cellW hX.out 1 _ rfl w1 hb1; have x2' := cellW hX.out 2 _ rfl w1 hb1) | (go_at_call 20; refine (HF.out _).mono ?_; rintro e w2 ⟨rfl, rfl⟩))
  replace hY : Hid _ := blk hY.out hb1
  replace hA : Below w.heap.size w w1 := keepB hA (Nat.le_refl _) hb1
  have hg1 := hb1.size
  have hA1 : Below w.heap.size w w1 := hA
  have gw1 : w.heap.size + 2 ≤ w1.heap.size := by omega
  go_upto_region 8 with (first
    | (go_at_call 21; refine (HC.out _ hA1).mono ?_; rintro e w3 ⟨va, vd, rfl, hO3, hD3, hb3⟩; obtain ⟨pa, ca, rfl⟩ := OwnK.shape hO3; obtain ⟨pd, cd, rfl⟩ := OwnK.shape hD3)
    | (refine wpList_store_row rfl 30 (.tmp 5) (.tmp 40) rfl w3.heap.size #[.int .i64 s.nx, .slice pa s.op.length ca, .slice pd s.dn.length cd] rfl rfl _ _ (heap_alloc_new w3 (.cells #[.int .i64 0, .slice none 0 0, .slice none 0 0] 30)) (by kernel_rfl) rfl (by simp [Value.oneCell']) ?_))
  have hbS : Below w3.heap.size w3 ((w3.alloc (.cells #[.int .i64 0, .slice none 0 0, .slice none 0 0] 30)).setRow w3.heap.size #[.int .i64 s.nx, .slice pa s.op.length ca, .slice pd s.dn.length cd]) := rcBelow_setRow (all_alloc w3 (.cells #[.int .i64 0, .slice none 0 0, .slice none 0 0] 30)) (Nat.le_refl _) _
  have hM : Hid _ := setRow_heap _ w3.heap.size _ #[.int .i64 s.nx, .slice pa s.op.length ca, .slice pd s.dn.length cd] _ _ (heap_alloc_new w3 (.cells #[.int .i64 0, .slice none 0 0, .slice none 0 0] 30))
  have hX1 : Hid _ := blk (blk (blk hX.out hb1) hb3) hbS
  replace hY : Hid _ := blk (blk hY.out hb3) hbS
  replace hA : Below w.heap.size w ((w3.alloc (.cells #[.int .i64 0, .slice none 0 0, .slice none 0 0] 30)).setRow w3.heap.size #[.int .i64 s.nx, .slice pa s.op.length ca, .slice pd s.dn.length cd]) := keepB (keepB hA (Nat.le_refl _) hb3) (Nat.le_refl _) hbS
  have hlO := OwnK.lt hO3
  have hlD := OwnK.lt hD3
  have hO : Hid (OwnKW ((w3.alloc (.cells #[.int .i64 0, .slice none 0 0, .slice none 0 0] 30)).setRow w3.heap.size #[.int .i64 s.nx, .slice pa s.op.length ca, .slice pd s.dn.length cd]) (w.heap.size + 2) (.slice pa s.op.length ca) s.op) := OwnK.low (OwnK.below hO3 hbS) gw1
  have hD : Hid (OwnKD ((w3.alloc (.cells #[.int .i64 0, .slice none 0 0, .slice none 0 0] 30)).setRow w3.heap.size #[.int .i64 s.nx, .slice pa s.op.length ca, .slice pd s.dn.length cd]) (w.heap.size + 2) (.slice pd s.dn.length cd) s.dn) := OwnK.low (OwnK.below hD3 hbS) gw1
  have hg3 := hb3.size
  clear hO3 hD3 hb3 hbS hX hb1 x0 x1 x2 x0' x1' x2' hA1 HC HR HF
  generalize (w3.alloc (.cells #[.int .i64 0, .slice none 0 0, .slice none 0 0] 30)).setRow w3.heap.size #[.int .i64 s.nx, .slice pa s.op.length ca, .slice pd s.dn.length cd] = V at hM hX1 hY hA hO hD ⊢
  obtain ⟨M, hMe⟩ : ∃ M, w3.heap.size = M := ⟨_, rfl⟩
  rw [hMe] at hM hlO hlD hg3 ⊢
  clear hMe
  have hMV : M < V.heap.size := (Array.getElem?_eq_some_iff.1 hM.out).1
  have x0 := cellW hX1.out 0 _ rfl V (Below.refl _ _)
  have m1 := cellW hM.out 1 _ rfl V (Below.refl _ _)
  have bV := all_alloc V (.cells #[.int .i64 s.nx, .string ask, .int .i64 1, .int .i64 0] 50)
  have y0 := cellW hX1.out 0 _ rfl (V.alloc (.cells #[.int .i64 s.nx, .string ask, .int .i64 1, .int .i64 0] 50)) bV
  go_upto_region 9 with (first
    | (refine wpList_app_rec HTW.out wtC_len wtC_one rfl (.tmp 42) (.tmp 47) rfl (w.heap.size + 2) (.slice pa s.op.length ca) (.slice (some ⟨V.heap.size, 0, none⟩) 1 1) s.op [⟨s.nx, ask, 1, 0⟩] rfl rfl (OwnK.below hO.out bV) (row_oneW (heap_alloc_new V (.cells #[.int .i64 s.nx, .string ask, .int .i64 1, .int .i64 0] 50))) (by omega) (by simp) (by have := bV.size; omega) ?_
       intro v7 w7 hO7 hg7 hv7
       obtain ⟨p7, c7, rfl⟩ := OwnK.shape hO7
       rw [show (s.op ++ [(⟨s.nx, ask, 1, 0⟩ : Wt)]).length = s.op.length + 1 by rw [List.length_append]; rfl] at hO7 hv7 ⊢
       have hM7 : Hid _ := (hg7.block M (by have := bV.size; omega) (fun e => by have := hlO M e.symm; omega)).trans (blk hM.out bV)
       have n1 := cellW hM7.out 1 _ rfl w7 (Below.refl _ _)
       have f1 := frozenW hM7.out 1 w7 (Below.refl _ _)))
  have hX7 : Hid _ := (hg7.block w.heap.size (by have := bV.size; omega) (fun e => by have := hlO _ e.symm; omega)).trans (blk hX1.out bV)
  have hY7 : Hid _ := (hg7.block (w.heap.size + 1) (by have := bV.size; omega) (fun e => by have := hlO _ e.symm; omega)).trans (blk hY.out bV)
  have hA6 : Below w.heap.size w (V.alloc (.cells #[.int .i64 s.nx, .string ask, .int .i64 1, .int .i64 0] 50)) := keepB hA (Nat.le_refl _) bV
  have hA7 : Below w.heap.size w w7 := hA6.grown hg7 hA6.size (fun j hj => by have := hlO j hj; omega)
  have hD7 : OwnKD w7 (w.heap.size + 2) (.slice pd s.dn.length cd) s.dn := OwnK.grown (OwnK.below hD.out bV) hg7 (rows_apart hO.out hD.out)
  have hl7 : ∀ b, (Value.slice p7 (s.op.length + 1) c7).ownBlock = some b → w.heap.size + 2 ≤ b ∧ b < w7.heap.size ∧ b ≠ M := by
    intro b hb
    have q := OwnK.lt hO7 b hb
    refine ⟨q.1, q.2, ?_⟩
    rcases hv7 with e | e
    · rw [e] at hb
      have := hlO b hb
      omega
    · rw [e] at hb
      cases hb
      have := bV.size
      omega
  have hap : ∀ a b, (Value.slice p7 (s.op.length + 1) c7).ownBlock = some a → (Value.slice pd s.dn.length cd).ownBlock = some b → a ≠ b := rows_apart hO7 hD7
  have hzM : M < w7.heap.size := (Array.getElem?_eq_some_iff.1 hM7.out).1
  have ga : w.heap.size ≠ M := by omega
  have gb : w.heap.size + 1 ≠ M := by omega
  have gc : w.heap.size + 2 ≤ M := by omega
  have hlD' : ∀ b, (Value.slice pd s.dn.length cd).ownBlock = some b → w.heap.size + 2 ≤ b ∧ b < M := fun b hb => by have := hlD b hb; omega
  have hX8 : Hid ((w7.setCell ⟨M, 1, none⟩ (.slice p7 (s.op.length + 1) c7)).heap[w.heap.size]? = some (.cells #[.int .i64 s.nx, .slice p1 s.op.length c1, .slice p2 s.dn.length c2] 30 (0, 0))) := blk_far (a := ⟨M, 1, none⟩) hX7.out ga _
  have hY8 : Hid _ := blk_far (a := ⟨M, 1, none⟩) hY7.out gb (.slice p7 (s.op.length + 1) c7)
  have hM8 : Hid ((w7.setCell ⟨M, 1, none⟩ (.slice p7 (s.op.length + 1) c7)).heap[M]? = some (.cells #[.int .i64 s.nx, .slice p7 (s.op.length + 1) c7, .slice pd s.dn.length cd] 30 (0, 0))) := blk_set hM7.out 1 (.slice p7 (s.op.length + 1) c7)
  have hA8 : Below w.heap.size w (w7.setCell ⟨M, 1, none⟩ (.slice p7 (s.op.length + 1) c7)) := hA7.setCell (by simp only; omega) _
  have hO8 : Hid (OwnKW (w7.setCell ⟨M, 1, none⟩ (.slice p7 (s.op.length + 1) c7)) (w.heap.size + 2) (.slice p7 (s.op.length + 1) c7) (s.op ++ [⟨s.nx, ask, 1, 0⟩])) := OwnK.far hO7 (a := ⟨M, 1, none⟩) (fun b hb => (hl7 b hb).2.2) (.slice p7 (s.op.length + 1) c7)
  have hD8 : Hid (OwnKD (w7.setCell ⟨M, 1, none⟩ (.slice p7 (s.op.length + 1) c7)) (w.heap.size + 2) (.slice pd s.dn.length cd) s.dn) := OwnK.far hD7 (a := ⟨M, 1, none⟩) (fun b hb => by have := hlD' b hb; simp only; omega) (.slice p7 (s.op.length + 1) c7)
  have hl8 : ∀ b, (Value.slice p7 (s.op.length + 1) c7).ownBlock = some b → w.heap.size + 2 ≤ b ∧ b < (w7.setCell ⟨M, 1, none⟩ (.slice p7 (s.op.length + 1) c7)).heap.size ∧ b ≠ M := fun b hb => ⟨(hl7 b hb).1, (OwnK.lt hO8.out b hb).2, (hl7 b hb).2.2⟩
  have hz8 : M < (w7.setCell ⟨M, 1, none⟩ (.slice p7 (s.op.length + 1) c7)).heap.size := (Array.getElem?_eq_some_iff.1 hM8.out).1
  clear hX1 hY hM hA hO hD hlO hlD hg3 hMV x0 m1 bV y0 hO7 hg7 hv7 hM7 n1 f1 hX7 hY7 hA6 hA7 hD7 hl7 hzM gw1
  generalize w7.setCell ⟨M, 1, none⟩ (.slice p7 (s.op.length + 1) c7) = U at hX8 hY8 hM8 hA8 hO8 hD8 hl8 hz8 ⊢
  have x0 := cellW hX8.out 0 _ rfl U (Below.refl _ _)
  have m0 := cellW hM8.out 0 _ rfl U (Below.refl _ _)
  have f0 := frozenW hM8.out 0 U (Below.refl _ _)
  go_upto_region 10 with fail
  have hX9 : Hid ((U.setCell ⟨M, 0, none⟩ (.int .i64 (s.nx + 1))).heap[w.heap.size]? = some (.cells #[.int .i64 s.nx, .slice p1 s.op.length c1, .slice p2 s.dn.length c2] 30 (0, 0))) := blk_far (a := ⟨M, 0, none⟩) hX8.out ga _
  have hY9 : Hid _ := blk_far (a := ⟨M, 0, none⟩) hY8.out gb (.int .i64 (s.nx + 1))
  have hM9 : Hid ((U.setCell ⟨M, 0, none⟩ (.int .i64 (s.nx + 1))).heap[M]? = some (.cells #[.int .i64 (s.nx + 1), .slice p7 (s.op.length + 1) c7, .slice pd s.dn.length cd] 30 (0, 0))) := blk_set hM8.out 0 (.int .i64 (s.nx + 1))
  have hA9 : Below w.heap.size w (U.setCell ⟨M, 0, none⟩ (.int .i64 (s.nx + 1))) := hA8.setCell (by simp only; omega) _
  have hO9 : Hid (OwnKW (U.setCell ⟨M, 0, none⟩ (.int .i64 (s.nx + 1))) (w.heap.size + 2) (.slice p7 (s.op.length + 1) c7) (s.op ++ [⟨s.nx, ask, 1, 0⟩])) := OwnK.far hO8.out (a := ⟨M, 0, none⟩) (fun b hb => (hl8 b hb).2.2) (.int .i64 (s.nx + 1))
  have hD9 : Hid (OwnKD (U.setCell ⟨M, 0, none⟩ (.int .i64 (s.nx + 1))) (w.heap.size + 2) (.slice pd s.dn.length cd) s.dn) := OwnK.far hD8.out (a := ⟨M, 0, none⟩) (fun b hb => by have := hlD' b hb; simp only; omega) (.int .i64 (s.nx + 1))
  have hl9 : ∀ b, (Value.slice p7 (s.op.length + 1) c7).ownBlock = some b → w.heap.size + 2 ≤ b ∧ b < (U.setCell ⟨M, 0, none⟩ (.int .i64 (s.nx + 1))).heap.size := fun b hb => ⟨(hl8 b hb).1, (OwnK.lt hO9.out b hb).2⟩
  have hz9 : M < (U.setCell ⟨M, 0, none⟩ (.int .i64 (s.nx + 1))).heap.size := (Array.getElem?_eq_some_iff.1 hM9.out).1
  clear hX8 hY8 hM8 hA8 hO8 hD8 hl8 hz8 x0 m0 f0
  generalize U.setCell ⟨M, 0, none⟩ (.int .i64 (s.nx + 1)) = T at hX9 hY9 hM9 hA9 hO9 hD9 hl9 hz9 ⊢
  have hd := Below.drew (Below.refl T.heap.size T)
  refine wp_region_held_drew (S := (fun w' => w'.heap[w.heap.size]? = some (.cells #[.int .i64 s.nx, .slice p1 s.op.length c1, .slice p2 s.dn.length c2] 30 (0, 0)) ∧ w'.heap[M]? = some (.cells #[.int .i64 (s.nx + 1), .slice p7 (s.op.length + 1) c7, .slice pd s.dn.length cd] 30 (0, 0)))) (by kernel_rfl) ?_ (fun hHeld => ?_)
  · (try dsimp only); exact ⟨blk hX9.out hd, blk hM9.out hd⟩
  have hX : Hid _ := blk hX9.out hd
  have hY : Hid _ := blk hY9.out hd
  have hMM : Hid _ := blk hM9.out hd
  have hA : Below w.heap.size w T.drew := keepB hA9 (Nat.le_refl _) hd
  have hO : Hid (OwnKW T.drew (w.heap.size + 2) (.slice p7 (s.op.length + 1) c7) (s.op ++ [⟨s.nx, ask, 1, 0⟩])) := OwnK.below hO9.out hd
  have hD : Hid (OwnKD T.drew (w.heap.size + 2) (.slice pd s.dn.length cd) s.dn) := OwnK.below hD9.out hd
  have hlt : ∀ b, (Value.slice p7 (s.op.length + 1) c7).ownBlock = some b → w.heap.size + 2 ≤ b ∧ b < T.drew.heap.size := hl9
  have hz : M < T.drew.heap.size := hz9
  clear hX9 hY9 hM9 hA9 hO9 hD9 hl9 hz9 hd
  generalize T.drew = D9 at hX hY hMM hA hO hD hlt hz hHeld ⊢
  refine yieldH (i := 0) (v := .agg #[.int .i64 (s.nx + 1), .slice p7 (s.op.length + 1) c7, .slice pd s.dn.length cd]) rfl (by kernel_rfl) (by kernel_rfl) (by kernel_rfl) (fun _ _ _ h => h) (by rfl) ?_ (by assumption) ?_
  · intro w hSw; (try dsimp only at hSw); have y0 := cellW hSw.2 0 _ rfl w (Below.refl _ _); have y1 := cellW hSw.2 1 _ rfl w (Below.refl _ _); have y2 := cellW hSw.2 2 _ rfl w (Below.refl _ _); go_simp
  try simp only [Act.put, List.setIfInBounds_toArray, List.set_cons_zero, List.set_cons_succ, List.getElem_toArray, List.getElem_cons_succ, List.getElem_cons_zero]
  first
    | (refine skipH (i := 1) rfl (by kernel_rfl) (by kernel_rfl) (by kernel_rfl) (fun _ _ _ h => h) (by rfl) (by assumption) ?_; try simp only [Act.put, List.setIfInBounds_toArray, List.set_cons_zero, List.set_cons_succ, List.getElem_toArray, List.getElem_cons_succ, List.getElem_cons_zero])
    | (refine yieldH (i := 1) (v := ?_) rfl (by kernel_rfl) (by kernel_rfl) (by kernel_rfl) (fun _ _ _ h => h) (by rfl) ?_ (by assumption) ?_; rotate_left; (intro w hSw; (try dsimp only at hSw); go_simp; (try with_reducible rfl)); try simp only [Act.put, List.setIfInBounds_toArray, List.set_cons_zero, List.set_cons_succ, List.getElem_toArray, List.getElem_cons_succ, List.getElem_cons_zero])
    | fail
  refine yieldH (i := 2) (v := .int .i64 s.nx) rfl (by kernel_rfl) (by kernel_rfl) (by kernel_rfl) (fun _ _ _ h => h) (by rfl) ?_ (by assumption) ?_
  · intro w hSw; (try dsimp only at hSw); have y0 := cellW hSw.1 0 _ rfl w (Below.refl _ _); go_simp
  try simp only [Act.put, List.setIfInBounds_toArray, List.set_cons_zero, List.set_cons_succ, List.getElem_toArray, List.getElem_cons_succ, List.getElem_cons_zero]
  first
    | (refine skipH (i := 3) rfl (by kernel_rfl) (by kernel_rfl) (by kernel_rfl) (fun _ _ _ h => h) (by rfl) (by assumption) ?_; try simp only [Act.put, List.setIfInBounds_toArray, List.set_cons_zero, List.set_cons_succ, List.getElem_toArray, List.getElem_cons_succ, List.getElem_cons_zero])
    | (refine yieldH (i := 3) (v := ?_) rfl (by kernel_rfl) (by kernel_rfl) (by kernel_rfl) (fun _ _ _ h => h) (by rfl) ?_ (by assumption) ?_; rotate_left; (intro w hSw; (try dsimp only at hSw); go_simp; (try with_reducible rfl)); try simp only [Act.put, List.setIfInBounds_toArray, List.set_cons_zero, List.set_cons_succ, List.getElem_toArray, List.getElem_cons_succ, List.getElem_cons_zero])
    | fail
  first
    | (refine skipH (i := 6) rfl (by kernel_rfl) (by kernel_rfl) (by kernel_rfl) (fun _ _ _ h => h) (by rfl) (by assumption) ?_; try simp only [Act.put, List.setIfInBounds_toArray, List.set_cons_zero, List.set_cons_succ, List.getElem_toArray, List.getElem_cons_succ, List.getElem_cons_zero])
    | (refine yieldH (i := 6) (v := ?_) rfl (by kernel_rfl) (by kernel_rfl) (by kernel_rfl) (fun _ _ _ h => h) (by rfl) ?_ (by assumption) ?_; rotate_left; (intro w hSw; (try dsimp only at hSw); go_simp; (try with_reducible rfl)); try simp only [Act.put, List.setIfInBounds_toArray, List.set_cons_zero, List.set_cons_succ, List.getElem_toArray, List.getElem_cons_succ, List.getElem_cons_zero])
    | fail
  refine yieldH (i := 7) (v := .int .i64 s.nx) rfl (by kernel_rfl) (by kernel_rfl) (by kernel_rfl) (fun _ _ _ h => h) (by rfl) ?_ (by assumption) ?_
  · intro w hSw; (try dsimp only at hSw); have y0 := cellW hSw.1 0 _ rfl w (Below.refl _ _); go_simp
  try simp only [Act.put, List.setIfInBounds_toArray, List.set_cons_zero, List.set_cons_succ, List.getElem_toArray, List.getElem_cons_succ, List.getElem_cons_zero]
  refine wpAnyH_ready (rs := [4]) (by kernel_rfl) (by simp) ?_
  refine AllReadyH.cons rfl (fun K hK => ?_) AllReadyH.nil
  go_simp
  go_at_call 22; refine (HL.out _).mono ?_; rintro e6 w6 ⟨rfl, hb6⟩
  (try dsimp only)
  refine hK.out _ _ ?_ (fun hHeld => ?_)
  · (try dsimp only); exact ⟨blk hX.out hb6, blk hMM.out hb6⟩
  clear hK K
  try simp only [Act.put, List.setIfInBounds_toArray, List.set_cons_zero, List.set_cons_succ, List.getElem_toArray, List.getElem_cons_succ, List.getElem_cons_zero]
  replace hX : Hid _ := blk hX.out hb6
  replace hMM : Hid _ := blk hMM.out hb6
  replace hY : Hid _ := blk hY.out hb6
  replace hA : Below w.heap.size w w6 := keepB hA (Nat.le_refl _) hb6
  replace hO : Hid (OwnKW w6 (w.heap.size + 2) (.slice p7 (s.op.length + 1) c7) (s.op ++ [⟨s.nx, ask, 1, 0⟩])) := OwnK.below hO.out hb6
  replace hD : Hid (OwnKD w6 (w.heap.size + 2) (.slice pd s.dn.length cd) s.dn) := OwnK.below hD.out hb6
  have hNz : D9.heap.size ≤ w6.heap.size := hb6.size
  clear hb6
  refine wpAnyH_ready (rs := [5]) (by kernel_rfl) (by simp) ?_
  refine AllReadyH.cons rfl (fun K hK => ?_) AllReadyH.nil
  go_simp
  (try dsimp only)
  refine hK.out _ _ ?_ (fun hHeld => ?_)
  · (try dsimp only); exact ⟨blk hX.out (all_alloc w6 (.cells #[.string LB] 9)), blk hMM.out (all_alloc w6 (.cells #[.string LB] 9))⟩
  clear hK K
  try simp only [Act.put, List.setIfInBounds_toArray, List.set_cons_zero, List.set_cons_succ, List.getElem_toArray, List.getElem_cons_succ, List.getElem_cons_zero]
  have hb7 := all_alloc w6 (.cells #[.string LB] 9)
  have hS : Hid _ := heap_alloc_new w6 (.cells #[.string LB] 9)
  have hNl : w6.heap.size < (w6.alloc (.cells #[.string LB] 9)).heap.size := by simp
  replace hX : Hid _ := blk hX.out hb7
  replace hMM : Hid _ := blk hMM.out hb7
  replace hY : Hid _ := blk hY.out hb7
  replace hA : Below w.heap.size w (w6.alloc (.cells #[.string LB] 9)) := keepB hA (Nat.le_refl _) hb7
  replace hO : Hid (OwnKW (w6.alloc (.cells #[.string LB] 9)) (w.heap.size + 2) (.slice p7 (s.op.length + 1) c7) (s.op ++ [⟨s.nx, ask, 1, 0⟩])) := OwnK.below hO.out hb7
  replace hD : Hid (OwnKD (w6.alloc (.cells #[.string LB] 9)) (w.heap.size + 2) (.slice pd s.dn.length cd) s.dn) := OwnK.below hD.out hb7
  clear hb7
  generalize w6.alloc (.cells #[.string LB] 9) = w7 at hS hNl hX hY hMM hA hO hD hHeld ⊢
  obtain ⟨N, hNe⟩ : ∃ N, w6.heap.size = N := ⟨_, rfl⟩
  have hNq : D9.heap.size ≤ N := by omega
  rw [hNe] at hS hNl ⊢
  clear hNe
  first
    | (refine skipH (i := 8) rfl (by kernel_rfl) (by kernel_rfl) (by kernel_rfl) (fun _ _ _ h => h) (by rfl) (by assumption) ?_; try simp only [Act.put, List.setIfInBounds_toArray, List.set_cons_zero, List.set_cons_succ, List.getElem_toArray, List.getElem_cons_succ, List.getElem_cons_zero])
    | (refine yieldH (i := 8) (v := ?_) rfl (by kernel_rfl) (by kernel_rfl) (by kernel_rfl) (fun _ _ _ h => h) (by rfl) ?_ (by assumption) ?_; rotate_left; (intro w hSw; (try dsimp only at hSw); go_simp; (try with_reducible rfl)); try simp only [Act.put, List.setIfInBounds_toArray, List.set_cons_zero, List.set_cons_succ, List.getElem_toArray, List.getElem_cons_succ, List.getElem_cons_zero])
    | fail
  have z0 := cellW hY.out 0 _ rfl w7 (Below.refl _ _)
  have f0 := frozenW hY.out 0 w7 (Below.refl _ _)
  have z1 := cellW hY.out 1 _ rfl w7 (Below.refl _ _)
  have f1 := frozenW hY.out 1 w7 (Below.refl _ _)
  have z2 := cellW hY.out 2 _ rfl w7 (Below.refl _ _)
  have f2 := frozenW hY.out 2 w7 (Below.refl _ _)
  have z3 := cellW hY.out 3 _ rfl w7 (Below.refl _ _)
  have f3 := frozenW hY.out 3 w7 (Below.refl _ _)
  have z4 := cellW hY.out 4 _ rfl w7 (Below.refl _ _)
  have f4 := frozenW hY.out 4 w7 (Below.refl _ _)
  have z5 := cellW hY.out 5 _ rfl w7 (Below.refl _ _)
  have f5 := frozenW hY.out 5 w7 (Below.refl _ _)
  have hXn : Hid (((((((w7.setCell ⟨w.heap.size + 1, 0, none⟩ (.int .i64 (s.nx + 1))).setCell ⟨w.heap.size + 1, 1, none⟩ (.slice p7 (s.op.length + 1) c7)).setCell ⟨w.heap.size + 1, 2, none⟩ (.slice pd s.dn.length cd)).setCell ⟨w.heap.size + 1, 3, none⟩ (.slice (some ⟨N, 0, none⟩) 1 1)).setCell ⟨w.heap.size + 1, 4, none⟩ (.int .i64 s.nx)).setCell ⟨w.heap.size + 1, 5, none⟩ (.int .i64 0)).heap[w.heap.size]? = some (.cells #[.int .i64 s.nx, .slice p1 s.op.length c1, .slice p2 s.dn.length c2] 30 (0, 0))) := blk_far (a := ⟨w.heap.size + 1, 5, none⟩) (blk_far (a := ⟨w.heap.size + 1, 4, none⟩) (blk_far (a := ⟨w.heap.size + 1, 3, none⟩) (blk_far (a := ⟨w.heap.size + 1, 2, none⟩) (blk_far (a := ⟨w.heap.size + 1, 1, none⟩) (blk_far (a := ⟨w.heap.size + 1, 0, none⟩) (hX.out) (by simp only; omega) (.int .i64 (s.nx + 1))) (by simp only; omega) (.slice p7 (s.op.length + 1) c7)) (by simp only; omega) (.slice pd s.dn.length cd)) (by simp only; omega) (.slice (some ⟨N, 0, none⟩) 1 1)) (by simp only; omega) (.int .i64 s.nx)) (by simp only; omega) (.int .i64 0)
  have hMn : Hid (((((((w7.setCell ⟨w.heap.size + 1, 0, none⟩ (.int .i64 (s.nx + 1))).setCell ⟨w.heap.size + 1, 1, none⟩ (.slice p7 (s.op.length + 1) c7)).setCell ⟨w.heap.size + 1, 2, none⟩ (.slice pd s.dn.length cd)).setCell ⟨w.heap.size + 1, 3, none⟩ (.slice (some ⟨N, 0, none⟩) 1 1)).setCell ⟨w.heap.size + 1, 4, none⟩ (.int .i64 s.nx)).setCell ⟨w.heap.size + 1, 5, none⟩ (.int .i64 0)).heap[M]? = some (.cells #[.int .i64 (s.nx + 1), .slice p7 (s.op.length + 1) c7, .slice pd s.dn.length cd] 30 (0, 0))) := blk_far (a := ⟨w.heap.size + 1, 5, none⟩) (blk_far (a := ⟨w.heap.size + 1, 4, none⟩) (blk_far (a := ⟨w.heap.size + 1, 3, none⟩) (blk_far (a := ⟨w.heap.size + 1, 2, none⟩) (blk_far (a := ⟨w.heap.size + 1, 1, none⟩) (blk_far (a := ⟨w.heap.size + 1, 0, none⟩) (hMM.out) (by simp only; omega) (.int .i64 (s.nx + 1))) (by simp only; omega) (.slice p7 (s.op.length + 1) c7)) (by simp only; omega) (.slice pd s.dn.length cd)) (by simp only; omega) (.slice (some ⟨N, 0, none⟩) 1 1)) (by simp only; omega) (.int .i64 s.nx)) (by simp only; omega) (.int .i64 0)
  have hYn : Hid (((((((w7.setCell ⟨w.heap.size + 1, 0, none⟩ (.int .i64 (s.nx + 1))).setCell ⟨w.heap.size + 1, 1, none⟩ (.slice p7 (s.op.length + 1) c7)).setCell ⟨w.heap.size + 1, 2, none⟩ (.slice pd s.dn.length cd)).setCell ⟨w.heap.size + 1, 3, none⟩ (.slice (some ⟨N, 0, none⟩) 1 1)).setCell ⟨w.heap.size + 1, 4, none⟩ (.int .i64 s.nx)).setCell ⟨w.heap.size + 1, 5, none⟩ (.int .i64 0)).heap[w.heap.size + 1]? = some (.cells #[.int .i64 (s.nx + 1), .slice p7 (s.op.length + 1) c7, .slice pd s.dn.length cd, .slice (some ⟨N, 0, none⟩) 1 1, .int .i64 s.nx, .int .i64 0] 33 (0, 0))) := blk_set (blk_set (blk_set (blk_set (blk_set (blk_set (hY.out) 0 (.int .i64 (s.nx + 1))) 1 (.slice p7 (s.op.length + 1) c7)) 2 (.slice pd s.dn.length cd)) 3 (.slice (some ⟨N, 0, none⟩) 1 1)) 4 (.int .i64 s.nx)) 5 (.int .i64 0)
  have hSn : Hid (((((((w7.setCell ⟨w.heap.size + 1, 0, none⟩ (.int .i64 (s.nx + 1))).setCell ⟨w.heap.size + 1, 1, none⟩ (.slice p7 (s.op.length + 1) c7)).setCell ⟨w.heap.size + 1, 2, none⟩ (.slice pd s.dn.length cd)).setCell ⟨w.heap.size + 1, 3, none⟩ (.slice (some ⟨N, 0, none⟩) 1 1)).setCell ⟨w.heap.size + 1, 4, none⟩ (.int .i64 s.nx)).setCell ⟨w.heap.size + 1, 5, none⟩ (.int .i64 0)).heap[N]? = some (.cells #[.string LB] 9 (0, 0))) := blk_far (a := ⟨w.heap.size + 1, 5, none⟩) (blk_far (a := ⟨w.heap.size + 1, 4, none⟩) (blk_far (a := ⟨w.heap.size + 1, 3, none⟩) (blk_far (a := ⟨w.heap.size + 1, 2, none⟩) (blk_far (a := ⟨w.heap.size + 1, 1, none⟩) (blk_far (a := ⟨w.heap.size + 1, 0, none⟩) (hS.out) (by simp only; omega) (.int .i64 (s.nx + 1))) (by simp only; omega) (.slice p7 (s.op.length + 1) c7)) (by simp only; omega) (.slice pd s.dn.length cd)) (by simp only; omega) (.slice (some ⟨N, 0, none⟩) 1 1)) (by simp only; omega) (.int .i64 s.nx)) (by simp only; omega) (.int .i64 0)
  have hAn : Below w.heap.size w ((((((w7.setCell ⟨w.heap.size + 1, 0, none⟩ (.int .i64 (s.nx + 1))).setCell ⟨w.heap.size + 1, 1, none⟩ (.slice p7 (s.op.length + 1) c7)).setCell ⟨w.heap.size + 1, 2, none⟩ (.slice pd s.dn.length cd)).setCell ⟨w.heap.size + 1, 3, none⟩ (.slice (some ⟨N, 0, none⟩) 1 1)).setCell ⟨w.heap.size + 1, 4, none⟩ (.int .i64 s.nx)).setCell ⟨w.heap.size + 1, 5, none⟩ (.int .i64 0)) := ((((((hA).setCell (by simp only; omega) _).setCell (by simp only; omega) _).setCell (by simp only; omega) _).setCell (by simp only; omega) _).setCell (by simp only; omega) _).setCell (by simp only; omega) _
  have hOPn : OwnKW ((((((w7.setCell ⟨w.heap.size + 1, 0, none⟩ (.int .i64 (s.nx + 1))).setCell ⟨w.heap.size + 1, 1, none⟩ (.slice p7 (s.op.length + 1) c7)).setCell ⟨w.heap.size + 1, 2, none⟩ (.slice pd s.dn.length cd)).setCell ⟨w.heap.size + 1, 3, none⟩ (.slice (some ⟨N, 0, none⟩) 1 1)).setCell ⟨w.heap.size + 1, 4, none⟩ (.int .i64 s.nx)).setCell ⟨w.heap.size + 1, 5, none⟩ (.int .i64 0)) (w.heap.size + 2) (.slice p7 (s.op.length + 1) c7) (s.op ++ [⟨s.nx, ask, 1, 0⟩]) := OwnK.far (OwnK.far (OwnK.far (OwnK.far (OwnK.far (OwnK.far (hO.out) (a := ⟨w.heap.size + 1, 0, none⟩) (fun b hb => by have := hlt b hb; simp only; omega) (.int .i64 (s.nx + 1))) (a := ⟨w.heap.size + 1, 1, none⟩) (fun b hb => by have := hlt b hb; simp only; omega) (.slice p7 (s.op.length + 1) c7)) (a := ⟨w.heap.size + 1, 2, none⟩) (fun b hb => by have := hlt b hb; simp only; omega) (.slice pd s.dn.length cd)) (a := ⟨w.heap.size + 1, 3, none⟩) (fun b hb => by have := hlt b hb; simp only; omega) (.slice (some ⟨N, 0, none⟩) 1 1)) (a := ⟨w.heap.size + 1, 4, none⟩) (fun b hb => by have := hlt b hb; simp only; omega) (.int .i64 s.nx)) (a := ⟨w.heap.size + 1, 5, none⟩) (fun b hb => by have := hlt b hb; simp only; omega) (.int .i64 0)
  have hODn : OwnKD ((((((w7.setCell ⟨w.heap.size + 1, 0, none⟩ (.int .i64 (s.nx + 1))).setCell ⟨w.heap.size + 1, 1, none⟩ (.slice p7 (s.op.length + 1) c7)).setCell ⟨w.heap.size + 1, 2, none⟩ (.slice pd s.dn.length cd)).setCell ⟨w.heap.size + 1, 3, none⟩ (.slice (some ⟨N, 0, none⟩) 1 1)).setCell ⟨w.heap.size + 1, 4, none⟩ (.int .i64 s.nx)).setCell ⟨w.heap.size + 1, 5, none⟩ (.int .i64 0)) (w.heap.size + 2) (.slice pd s.dn.length cd) s.dn := OwnK.far (OwnK.far (OwnK.far (OwnK.far (OwnK.far (OwnK.far (hD.out) (a := ⟨w.heap.size + 1, 0, none⟩) (fun b hb => by have := hlD' b hb; simp only; omega) (.int .i64 (s.nx + 1))) (a := ⟨w.heap.size + 1, 1, none⟩) (fun b hb => by have := hlD' b hb; simp only; omega) (.slice p7 (s.op.length + 1) c7)) (a := ⟨w.heap.size + 1, 2, none⟩) (fun b hb => by have := hlD' b hb; simp only; omega) (.slice pd s.dn.length cd)) (a := ⟨w.heap.size + 1, 3, none⟩) (fun b hb => by have := hlD' b hb; simp only; omega) (.slice (some ⟨N, 0, none⟩) 1 1)) (a := ⟨w.heap.size + 1, 4, none⟩) (fun b hb => by have := hlD' b hb; simp only; omega) (.int .i64 s.nx)) (a := ⟨w.heap.size + 1, 5, none⟩) (fun b hb => by have := hlD' b hb; simp only; omega) (.int .i64 0)
  have hzn : ((((((w7.setCell ⟨w.heap.size + 1, 0, none⟩ (.int .i64 (s.nx + 1))).setCell ⟨w.heap.size + 1, 1, none⟩ (.slice p7 (s.op.length + 1) c7)).setCell ⟨w.heap.size + 1, 2, none⟩ (.slice pd s.dn.length cd)).setCell ⟨w.heap.size + 1, 3, none⟩ (.slice (some ⟨N, 0, none⟩) 1 1)).setCell ⟨w.heap.size + 1, 4, none⟩ (.int .i64 s.nx)).setCell ⟨w.heap.size + 1, 5, none⟩ (.int .i64 0)).heap.size = w7.heap.size := by simp [World.setCell]
  refine wpAnyH_ready (rs := [9]) (by kernel_rfl) (by simp) ?_
  refine AllReadyH.cons rfl (fun K hK => ?_) AllReadyH.nil
  go_simp
  (try dsimp only)
  refine hK.out _ _ ?_ (fun hHeld => ?_)
  · (try dsimp only); exact ⟨hXn.out, hMn.out⟩
  clear hK K
  try simp only [Act.put, List.setIfInBounds_toArray, List.set_cons_zero, List.set_cons_succ, List.getElem_toArray, List.getElem_cons_succ, List.getElem_cons_zero]
  refine wpAnyH_done (by kernel_rfl) ?_ _
  clear z0 z1 z2 z3 z4 z5 f0 f1 f2 f3 f4 f5 hHeld
  generalize ((((((w7.setCell ⟨w.heap.size + 1, 0, none⟩ (.int .i64 (s.nx + 1))).setCell ⟨w.heap.size + 1, 1, none⟩ (.slice p7 (s.op.length + 1) c7)).setCell ⟨w.heap.size + 1, 2, none⟩ (.slice pd s.dn.length cd)).setCell ⟨w.heap.size + 1, 3, none⟩ (.slice (some ⟨N, 0, none⟩) 1 1)).setCell ⟨w.heap.size + 1, 4, none⟩ (.int .i64 s.nx)).setCell ⟨w.heap.size + 1, 5, none⟩ (.int .i64 0)) = w9 at hXn hMn hYn hSn hAn hOPn hODn hzn ⊢
  go_wp2
  have hSe : OwnSB w9 N (N + 1) (.slice (some ⟨N, 0, none⟩) 1 1) [LB] := ⟨⟨by simp, .inr ⟨N, 1, #[.string LB], rfl, Nat.le_refl _, hSn.out, Nat.le_refl _, by decide, by simp, by simp⟩⟩, fun k e => by cases e; exact Nat.lt_succ_self _⟩
  obtain ⟨l1, k1, a1, a2, a3, a4, a5⟩ := OwnK.tight wtC_len hOPn (by omega)
  obtain ⟨l2, k2, b1, b2, b3, b4, b5⟩ := OwnK.tight dnC_len hODn (by omega)
  have hdis := stretch_apart a1 b1 a4 b4 a5 b5 hap
  have hk1 : k1 ≤ N := by
    rcases a5 with h | h
    · have := hlt (k1 - 1) (a4 (k1 - 1) (by omega) (by omega))
      omega
    · omega
  have hk2 : k2 ≤ N := by
    rcases b5 with h | h
    · have := hlD' (k2 - 1) (b4 (k2 - 1) (by omega) (by omega))
      omega
    · omega
  exact bodyPost_ret (v := .agg #[.int .i64 (s.nx + 1), .slice p7 (s.op.length + 1) c7, .slice pd s.dn.length cd, .slice (some ⟨N, 0, none⟩) 1 1, .int .i64 s.nx, .int .i64 0]) (results_cell_row Try.results6 _ _ (w.heap.size + 1) _ _ _ _ rfl hYn.out Try.underlying33 rfl (by kernel_rfl)) rfl ⟨_, _, _, rfl, ⟨Nat.le_refl _, l1, k1, l2, k2, N, N + 1, ⟨by omega, by omega, by omega⟩, ⟨a2, b2, by omega⟩, a3, b3, hSe, hdis, .inl hk1, .inl hk2⟩, hAn⟩
end Go.Proofs.Ytghchcipobcpjaa
