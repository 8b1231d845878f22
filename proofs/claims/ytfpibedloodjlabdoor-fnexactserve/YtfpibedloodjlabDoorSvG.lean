/- A QUESTION SERVED: the program's Serve, the ways that answer. -/
import Derived.Test.YtfpibedloodjlabDoorSvF
import Derived.Test.YtfpibedloodjlabDoorTabL
import Derived.Test.YtfpibedloodjlabDoorWire
namespace Go.Proofs.YtfpibedloodjlabDoor
open Go.RowKit
set_option linter.unusedVariables false
set_option linter.unusedSimpArgs false

/-- what is kept while an answer is put together -/
def Sg (w : World) (GQ : Nat) (o1 o2 : Obj) (W : World) : Prop := Below w.heap.size w W ∧ W.heap[w.heap.size]? = some o1 ∧ W.heap[GQ]? = some o2
theorem OwnT.pickOwn {W : World} {B : Nat} {v1 v2 : Value} {t : Tb} (h : OwnT W B v1 v2 t) (c : Int) : OwnI W B (if coilB c then v1 else v2) (t.cells c) := by
  unfold Tb.cells
  cases coilB c
  · exact h.r
  · exact h.c
theorem OwnT.pickRow {W : World} {B : Nat} {v1 v2 : Value} {t : Tb} (h : OwnT W B v1 v2 t) (c : Int) : RowI W (if coilB c then v1 else v2) (t.cells c) := (h.pickOwn c).row
theorem OwnT.pick {W : World} {B : Nat} {v1 v2 : Value} {t : Tb} (h : OwnT W B v1 v2 t) (c : Int) (hl : 0 < (t.cells c).length) : ∃ gr cr, (if coilB c then v1 else v2) = .slice (some ⟨gr, 0, none⟩) (t.cells c).length cr ∧ (t.cells c).length ≤ cr := by
  obtain ⟨_, ⟨_, h0⟩ | ⟨g, cap, cur, e, _, _, hc, _⟩⟩ := h.pickOwn c
  · omega
  · exact ⟨g, cap, e, hc⟩
theorem OwnT.put1 {W W' : World} {B : Nat} {r1 r2 : Option Addr} {d1 d2 : Nat} {t : Tb} {q : Ak} {gr cr : Nat} (hrow : (if coilB q.c then Value.slice r1 t.cs.length d1 else .slice r2 t.rs.length d2) = .slice (some ⟨gr, 0, none⟩) (t.cells q.c).length cr)
    (h1 : OwnT W B (.slice r1 t.cs.length d1) (.slice r2 t.rs.length d2) t) (h2 : OwnI W' B (.slice (some ⟨gr, 0, none⟩) (t.cells q.c).length cr) (putL (t.cells q.c) q.a.toNat q.vs)) (h3 : W.grownBy W' (some gr)) : OwnT W' B (.slice r1 t.cs.length d1) (.slice r2 t.rs.length d2) (t.put q) := by
  unfold Tb.put Tb.cells at *
  cases hc : coilB q.c with
  | true =>
    rw [hc] at hrow h2
    simp only [if_true] at hrow h2 ⊢
    rw [← hrow] at h2
    refine ⟨h2, OwnI.grownT (u := .slice (some ⟨gr, 0, none⟩) 0 0) h1.r h3 (fun a b ha hb => ?_), h1.ne⟩
    cases ha
    exact h1.ne gr b (by rw [hrow]; rfl) hb
  | false =>
    rw [hc] at hrow h2
    simp only [Bool.false_eq_true, if_false] at hrow h2 ⊢
    rw [← hrow] at h2
    refine ⟨OwnI.grownT (u := .slice (some ⟨gr, 0, none⟩) 0 0) h1.c h3 (fun a b ha hb => ?_), h2, h1.ne⟩
    cases ha
    exact fun e => h1.ne b gr hb (by rw [hrow]; rfl) e.symm
theorem put_lens (t : Tb) (q : Ak) (h : q.a.toNat + q.vs.length ≤ (t.cells q.c).length) : (t.put q).cs.length = t.cs.length ∧ (t.put q).rs.length = t.rs.length := by
  unfold Tb.put Tb.cells at *
  cases hc : coilB q.c with
  | true => rw [hc] at h; simp only [if_true] at h ⊢; exact ⟨putL_length _ _ _ h, trivial⟩
  | false => rw [hc] at h; simp only [Bool.false_eq_true, if_false] at h ⊢; exact ⟨trivial, putL_length _ _ _ h⟩
set_option maxRecDepth 100000 in
set_option maxHeartbeats 3200000 in
theorem serve_look (t : Tb) (s : ByteArray) (B : Nat) (v1 v2 : Value) (w : World) (hz : s.size ≤ 9223372036854775807) (hl1 : t.cs.length ≤ 10000000) (hl2 : t.rs.length ≤ 10000000) (h : OwnT w B v1 v2 t) (f v p : Addr) (hS : Sents w f v p) (h0 : 0 < s.size) (h8 : s.size ≤ 8000) (hT : t.right = true) (hk : knownB (byteAt s 0 : Int) = true) (hC : (outA s).2 = 0) (hTh : thereB t (outA s).1 = true) (hq : (outA s).1.c = 1 ∨ (outA s).1.c = 3) :
    Calls Tryd.prog 7 #[.agg #[v1, v2], .string s] w fun e w' => ∃ u1 u2, e = .returned (.agg #[u1, u2, .string (oneB (outA s).1.c ++ (oneB ((valsB (outA s).1.c (t.look (outA s).1)).size : Int) ++ valsB (outA s).1.c (t.look (outA s).1))), .int .i64 0]) ∧ OwnT w' w.heap.size u1 u2 (t) ∧ Below w.heap.size w w' := by
  obtain ⟨p1, c1, rfl⟩ := h.c.shape
  obtain ⟨p2, c2, rfl⟩ := h.r.shape
  have HO : Hid (OwnT _ _ _ _ _) := h
  clear h
  obtain ⟨⟨hm1', _⟩, hm2', _⟩ := (Tb.right_iff t).1 hT
  have HTA : Hid (∀ (W : World) (P : Nat) (r1 r2 : Option Addr) (d1 d2 : Nat), W.heap[P]? = some (.cells #[.slice r1 t.cs.length d1, .slice r2 t.rs.length d2] 26 (0, 0)) → Sents W f v p → Calls Tryd.prog 21 #[.string s, .func (.func 19) #[] #[.pointer (some ⟨P, 0, none⟩)]] W fun e w' => ∃ v', e = .returned (.tuple #[.agg #[.int .i64 (outA s).1.c, .int .i64 (outA s).1.a, .int .i64 (outA s).1.m, v'], .nilIface]) ∧ OwnI w' W.heap.size v' (outA s).1.vs ∧ Below W.heap.size W w') := fun W P r1 r2 d1 d2 h1 h2 => takeAsk_0 t s P r1 r2 d1 d2 f v p W h0 h8 (by omega) (by omega) h1 h2 hk hC hTh
  obtain ⟨hR, hask, h5⟩ := outA_q hC
  have hb := outA_right hC
  have hc6 := Ak.codes hR
  generalize (outA s).1 = q at HTA hR hb hc6 hTh hq ⊢
  have hth : q.a + q.m ≤ ((t.cells q.c).length : Int) := by unfold thereB at hTh; rwa [decide_eq_true_eq] at hTh
  obtain ⟨hvs, hm1, hm64, _⟩ := look_fit hR hq
  have hLV := look_vals hT hR hq hTh
  have hll := look_len hb.1.1 (by omega) hTh
  have HNC : Hid (∀ (W : World) (v v1 v2 : Value) (gr cr : Nat), (∃ p n c, v = .slice p n c) → (∃ p k, v1 = .slice p t.cs.length k) → (∃ p k, v2 = .slice p t.rs.length k) → (if coilB q.c then v1 else v2) = .slice (some ⟨gr, 0, none⟩) (t.cells q.c).length cr → (t.cells q.c).length ≤ cr → Calls Tryd.prog 23 #[.agg #[v1, v2], .agg #[.int .i64 q.c, .int .i64 q.a, .int .i64 q.m, v]] W fun e w' => e = .returned (.slice (some ⟨gr, q.a.toNat, none⟩) q.m.toNat q.m.toNat) ∧ Below W.heap.size W w') := fun W v v1 v2 gr cr hv h1 h2 h3 h4 => namedCells_any t q v v1 v2 W hv hb.1 ⟨hm1, hb.2.2⟩ h1 h2 gr cr h3 h4 hth
  have HBT : Hid (∀ W : World, Calls Tryd.prog 25 #[.int .i64 q.c] W fun e w' => e = .returned (.string (oneB q.c)) ∧ Below W.heap.size W w') := fun W => byteText_any q.c W (by omega)
  have HCO : Hid (∀ (W : World) (v : Value), RowO W v (t.look q) → Calls Tryd.prog 26 #[.int .i64 q.c, v] W fun e w' => e = .returned (.string (oneB ((valsB q.c (t.look q)).size : Int) ++ valsB q.c (t.look q))) ∧ Below W.heap.size W w') := fun W v h => countedText_o q.c v (t.look q) W (by omega) hLV.2.1 (by omega) h
  have z1 : (oneB q.c).size = 1 := rfl
  have z2 : (oneB ((valsB q.c (t.look q)).size : Int) ++ valsB q.c (t.look q)).size ≤ 1000 := by rw [ByteArray.size_append, show (oneB ((valsB q.c (t.look q)).size : Int)).size = 1 from rfl]; have := hLV.2.2; omega
  generalize oneB ((valsB q.c (t.look q)).size : Int) ++ valsB q.c (t.look q) = D at HCO z2 ⊢
  generalize oneB q.c = t1 at HBT z1 ⊢
  have HJ : Hid (∀ W : World, Calls Tryd.prog 24 #[.slice (some ⟨W.heap.size, 0, none⟩) 2 2] (W.alloc (.cells #[.string t1, .string D] 9)) fun e w' => e = .returned (.string (t1 ++ D)) ∧ Below (W.alloc (.cells #[.string t1, .string D] 9)).heap.size (W.alloc (.cells #[.string t1, .string D] 9)) w') := fun W => by
    refine (join_row W.heap.size (0, 0) [t1, D] _ (heap_alloc_new W _) (by simp) (by intro s hs; simp at hs; rcases hs with rfl | rfl <;> omega)).mono ?_
    rintro e w' ⟨rfl, hb⟩
    exact ⟨by simp [joinT], hb⟩
  generalize t1 ++ D = R at HJ ⊢
  have EVL : Hid (q.vs.length = 0) := by show _ = _; rw [hvs]; rfl
  have hfit : q.a.toNat + q.m.toNat ≤ (t.cells q.c).length := by omega
  clear hLV hll z1 z2 hvs hR hask hb hc6 hTh hq hk hC
  have h8' : ¬ (8000 : Int) < s.size := by omega
  have qE : (s.toList == ([] : List UInt8)) = false := by rw [empty_iff, decide_eq_false (by omega)]
  have HR : Hid (∀ W, Below w.heap.size w W → Calls Tryd.prog 17 #[.agg #[.slice p1 t.cs.length c1, .slice p2 t.rs.length c2]] W fun e w' => e = .returned (.bool true) ∧ Below W.heap.size W w') := fun W hW => by
    have := tableRight_any t p1 p2 c1 c2 W hl1 hl2 (HO.out.c.below hW).row (HO.out.r.below hW).row
    rwa [hT] at this
  obtain ⟨⟨hn1, _⟩, hn2, _⟩ := (Tb.right_iff t).1 hT
  have HCP : Hid (∀ W, Below w.heap.size w W → Calls Tryd.prog 18 #[.agg #[.slice p1 t.cs.length c1, .slice p2 t.rs.length c2]] W fun e w' => ∃ u1 u2, e = .returned (.agg #[u1, u2]) ∧ OwnT w' W.heap.size u1 u2 t ∧ Below W.heap.size W w') := fun W hW => copyTable_any t B _ _ W (by omega) (by omega) (HO.out.below hW)
  have HS : Hid (Sents w f v p) := hS
  clear HO hS
  have hX : Hid _ := blk (heap_alloc_new w (.cells #[.slice p1 t.cs.length c1, .slice p2 t.rs.length c2] 26)) (all_alloc _ (.cells #[.slice none 0 0, .slice none 0 0, .string ⟨#[]⟩, .int .i64 0] 28))
  have hY : Hid _ := heap_alloc_new (w.alloc (.cells #[.slice p1 t.cs.length c1, .slice p2 t.rs.length c2] 26)) (.cells #[.slice none 0 0, .slice none 0 0, .string ⟨#[]⟩, .int .i64 0] 28)
  have hA0 : Below w.heap.size w ((w.alloc (.cells #[.slice p1 t.cs.length c1, .slice p2 t.rs.length c2] 26)).alloc (.cells #[.slice none 0 0, .slice none 0 0, .string ⟨#[]⟩, .int .i64 0] 28)) := keepB (all_alloc w _) (Nat.le_refl _) (all_alloc _ _)
  have e1 : (w.alloc (.cells #[.slice p1 t.cs.length c1, .slice p2 t.rs.length c2] 26)).heap.size = w.heap.size + 1 := by simp
  have e3 : ((w.alloc (.cells #[.slice p1 t.cs.length c1, .slice p2 t.rs.length c2] 26)).alloc (.cells #[.slice none 0 0, .slice none 0 0, .string ⟨#[]⟩, .int .i64 0] 28)).heap.size = w.heap.size + 1 + 1 := by simp
  rw [e1] at hY
  go_enter Tryd.func7, Tryd.ntmps7
  go_upto_region 1 with fail
  generalize (w.alloc (.cells #[.slice p1 t.cs.length c1, .slice p2 t.rs.length c2] 26)).alloc (.cells #[.slice none 0 0, .slice none 0 0, .string ⟨#[]⟩, .int .i64 0] 28) = A at hX hY hA0 e3 ⊢
  clear e1
  have x0 := cellW hX.out 0 _ rfl A (Below.refl _ _)
  have x1 := cellW hX.out 1 _ rfl A (Below.refl _ _)
  go_upto_region 6 with (first
    | (go_at_call 17; refine (HR.out _ hA0).mono ?_; rintro e w1 ⟨rfl, hb1⟩; have a0 := cellW hX.out 0 _ rfl w1 hb1; have a1 := cellW hX.out 1 _ rfl w1 hb1)
    | (go_at_call 18; refine (HCP.out _ (keepB hA0 (Nat.le_refl _) hb1)).mono ?_; rintro e w2 ⟨u1, u2, rfl, own2, hb2⟩; obtain ⟨r1, d1, rfl⟩ := own2.c.shape; obtain ⟨r2, d2, rfl⟩ := own2.r.shape; have hX2 : Hid _ := blk (blk hX.out hb1) hb2; have b0 := cellW hX2.out 0 _ rfl w2 (Below.refl _ _); have b1 := cellW hX2.out 1 _ rfl w2 (Below.refl _ _); have g0 := frozenW hX2.out 0 w2 (Below.refl _ _); have g1 := frozenW hX2.out 1 w2 (Below.refl _ _)))
  have hs1 : w.heap.size + 1 + 1 ≤ w1.heap.size := by have := hb1.size; omega
  have hG3 : Hid (_ = some (Obj.cells #[.slice r1 t.cs.length d1, .slice r2 t.rs.length d2] 26 (0, 0))) := blk_set (blk_set hX2.out 0 (.slice r1 t.cs.length d1)) 1 (.slice r2 t.rs.length d2)
  have hR3 : Hid _ := blk_far (a := ⟨w.heap.size, 1, none⟩) (blk_far (a := ⟨w.heap.size, 0, none⟩) (blk (blk hY.out hb1) hb2) (by simp only; omega) (.slice r1 t.cs.length d1)) (by simp only; omega) (.slice r2 t.rs.length d2)
  have own3 : Hid (OwnT _ (w.heap.size + 1 + 1) (.slice r1 t.cs.length d1) (.slice r2 t.rs.length d2) t) := OwnT.farT (OwnT.farT (OwnT.leT own2 hs1) (a := ⟨w.heap.size, 0, none⟩) (by simp only; omega) (.slice r1 t.cs.length d1)) (a := ⟨w.heap.size, 1, none⟩) (by simp only; omega) (.slice r2 t.rs.length d2)
  have hB3 : Below w.heap.size w ((w2.setCell ⟨w.heap.size, 0, none⟩ (.slice r1 t.cs.length d1)).setCell ⟨w.heap.size, 1, none⟩ (.slice r2 t.rs.length d2)) := ((keepB (keepB hA0 (Nat.le_refl _) hb1) (Nat.le_refl _) hb2).setCell (Nat.le_refl _) _).setCell (Nat.le_refl _) _
  have hs3 : w.heap.size + 1 + 1 ≤ ((w2.setCell ⟨w.heap.size, 0, none⟩ (.slice r1 t.cs.length d1)).setCell ⟨w.heap.size, 1, none⟩ (.slice r2 t.rs.length d2)).heap.size := by simp [World.setCell]; have := hb2.size; omega
  generalize (w2.setCell ⟨w.heap.size, 0, none⟩ (.slice r1 t.cs.length d1)).setCell ⟨w.heap.size, 1, none⟩ (.slice r2 t.rs.length d2) = w3 at hG3 hR3 own3 hB3 hs3 ⊢
  have S3 : Hid (Sents w3 f v p) := HS.out.below hB3
  clear HS HR HCP hb1 hb2 own2 hX hY hX2 b0 b1 g0 g1 a0 a1 x0 x1 hA0 e3 hs1
  clear w1 w2
  have hmf : ∀ (fn : Fn) (first cap : Array Value) (w : World), (Instr.makeFunc fn first cap).run Tryd.prog w = .ok (.func fn first cap) w := fun _ _ _ _ => rfl
  obtain ⟨gr, cr, hrow, hcr⟩ : ∃ gr cr, (if coilB q.c then Value.slice r1 t.cs.length d1 else .slice r2 t.rs.length d2) = .slice (some ⟨gr, 0, none⟩) (t.cells q.c).length cr ∧ (t.cells q.c).length ≤ cr := own3.out.pick q.c (by omega)
  have HNC1 : Hid (∀ (W : World) (v : Value), (∃ p n c, v = .slice p n c) → Calls Tryd.prog 23 #[.agg #[.slice r1 t.cs.length d1, .slice r2 t.rs.length d2], .agg #[.int .i64 q.c, .int .i64 q.a, .int .i64 q.m, v]] W fun e w' => e = .returned (.slice (some ⟨gr, q.a.toNat, none⟩) q.m.toNat q.m.toNat) ∧ Below W.heap.size W w') := fun W v hv => HNC.out W v _ _ gr cr hv ⟨_, _, rfl⟩ ⟨_, _, rfl⟩ hrow hcr
  have HCT : Hid (∀ W : World, Below w3.heap.size w3 W → Calls Tryd.prog 26 #[.int .i64 q.c, .slice (some ⟨gr, q.a.toNat, none⟩) q.m.toNat q.m.toNat] W fun e w' => e = .returned (.string D) ∧ Below W.heap.size W w') := fun W hW => by
    have hri := (own3.out.below hW).pickRow q.c
    rw [hrow] at hri
    exact HCO.out W _ (RowI.part hri q.a.toNat q.m.toNat q.m.toNat hfit gr rfl)
  have HTA1 : Hid (Calls Tryd.prog 21 #[.string s, .func (.func 19) #[] #[.pointer (some ⟨w.heap.size, 0, none⟩)]] w3 fun e w' => ∃ v', e = .returned (.tuple #[.agg #[.int .i64 q.c, .int .i64 q.a, .int .i64 q.m, v'], .nilIface]) ∧ OwnI w' w3.heap.size v' q.vs ∧ Below w3.heap.size w3 w') := HTA.out w3 w.heap.size r1 r2 d1 d2 hG3.out S3.out
  clear HNC HCO HTA hrow hcr hth hfit
  go_upto_region 8 with (go_at_call 21; refine HTA1.out.mono ?_; rintro e w4 ⟨uq, rfl, own4, hb4⟩; obtain ⟨pv, cv, rfl⟩ := own4.shape)
  have k5 : Below w3.heap.size w3 (w4.alloc (.cells #[.int .i64 q.c, .int .i64 q.a, .int .i64 q.m, .slice pv q.vs.length cv] 43)) := keepB hb4 (Nat.le_refl _) (all_alloc _ _)
  have hQ5 : Hid _ := heap_alloc_new w4 (.cells #[.int .i64 q.c, .int .i64 q.a, .int .i64 q.m, .slice pv q.vs.length cv] 43)
  generalize w4.alloc (.cells #[.int .i64 q.c, .int .i64 q.a, .int .i64 q.m, .slice pv q.vs.length cv] 43) = A5 at k5 hQ5 ⊢
  have hGQ : w3.heap.size ≤ w4.heap.size := hb4.size
  generalize w4.heap.size = GQ at hQ5 hGQ ⊢
  clear own4 hb4 HTA1
  have hG5 : Hid _ := blk hG3.out k5
  have q0 := cellW hG5.out 0 _ rfl A5 (Below.refl _ _)
  have q1 := cellW hG5.out 1 _ rfl A5 (Below.refl _ _)
  have a0 := cellW hQ5.out 0 _ rfl A5 (Below.refl _ _)
  have a1 := cellW hQ5.out 1 _ rfl A5 (Below.refl _ _)
  have a2 := cellW hQ5.out 2 _ rfl A5 (Below.refl _ _)
  have a3 := cellW hQ5.out 3 _ rfl A5 (Below.refl _ _)
  go_upto_region 11 with (go_at_call 23; refine (HNC1.out _ _ ⟨_, _, _, rfl⟩).mono ?_; rintro e w6 ⟨rfl, hb6⟩)
  have k6 : Below w3.heap.size w3 w6 := keepB k5 (Nat.le_refl _) hb6
  have hQ6 : Hid _ := blk hQ5.out hb6
  have hG6 : Hid _ := blk hG3.out k6
  have hR6 : Hid _ := blk hR3.out k6
  have own6 : Hid (OwnT w6 (w.heap.size + 1 + 1) (.slice r1 t.cs.length d1) (.slice r2 t.rs.length d2) t) := own3.out.below k6
  have hB6 : Below w.heap.size w w6 := keepB hB3 (Nat.le_refl _) k6
  clear q0 q1 a0 a1 a2 a3 hG5 hQ5 k5 hG3 hR3 own3 S3 hb6
  have hAd : Below w6.heap.size w6 w6.drew := Below.drew (Below.refl _ _)
  have a3 := cellW hQ6.out 3 _ rfl w6 (Below.refl _ _)
  have evl := EVL.out
  go_upto_region 12 with fail
  clear a3 evl EVL
  have HSG : Hid (∀ W, Below w6.heap.size w6 W → Sg w GQ (.cells #[.slice r1 t.cs.length d1, .slice r2 t.rs.length d2] 26 (0, 0)) (.cells #[.int .i64 q.c, .int .i64 q.a, .int .i64 q.m, .slice pv q.vs.length cv] 43 (0, 0)) W) := fun W hW => ⟨keepB hB6 (Nat.le_refl _) hW, blk hG6.out hW, blk hQ6.out hW⟩
  have a0 : ∀ W, Sg w GQ (.cells #[.slice r1 t.cs.length d1, .slice r2 t.rs.length d2] 26 (0, 0)) (.cells #[.int .i64 q.c, .int .i64 q.a, .int .i64 q.m, .slice pv q.vs.length cv] 43 (0, 0)) W → W.cell? ⟨GQ, 0, none⟩ = some (.int .i64 q.c) := fun W hW => cellW hW.2.2 0 _ rfl W (Below.refl _ _)
  have q0 : ∀ W, Sg w GQ (.cells #[.slice r1 t.cs.length d1, .slice r2 t.rs.length d2] 26 (0, 0)) (.cells #[.int .i64 q.c, .int .i64 q.a, .int .i64 q.m, .slice pv q.vs.length cv] 43 (0, 0)) W → W.cell? ⟨w.heap.size, 0, none⟩ = some (.slice r1 t.cs.length d1) := fun W hW => cellW hW.2.1 0 _ rfl W (Below.refl _ _)
  have q1 : ∀ W, Sg w GQ (.cells #[.slice r1 t.cs.length d1, .slice r2 t.rs.length d2] 26 (0, 0)) (.cells #[.int .i64 q.c, .int .i64 q.a, .int .i64 q.m, .slice pv q.vs.length cv] 43 (0, 0)) W → W.cell? ⟨w.heap.size, 1, none⟩ = some (.slice r2 t.rs.length d2) := fun W hW => cellW hW.2.1 1 _ rfl W (Below.refl _ _)
  have hGQ0 : w.heap.size + 1 < GQ := by omega
  refine wp_region_held_drew (S := fun W => Sg w GQ (.cells #[.slice r1 t.cs.length d1, .slice r2 t.rs.length d2] 26 (0, 0)) (.cells #[.int .i64 q.c, .int .i64 q.a, .int .i64 q.m, .slice pv q.vs.length cv] 43 (0, 0)) W) (by kernel_rfl) ?_ (fun hHeld => ?_)
  · exact HSG.out _ hAd
  refine yieldH (i := 0) (v := ?_) rfl (by kernel_rfl) (by kernel_rfl) (by kernel_rfl) (fun _ _ _ h => h) (by rfl) ?_ (by assumption) ?_; rotate_left
  · intro w' hSw; (try dsimp only at hSw); go_simp; (try with_reducible rfl)
  try simp only [Act.put, List.setIfInBounds_toArray, List.set_cons_zero, List.set_cons_succ, List.getElem_toArray, List.getElem_cons_succ, List.getElem_cons_zero]
  refine yieldH (i := 1) (v := ?_) rfl (by kernel_rfl) (by kernel_rfl) (by kernel_rfl) (fun _ _ _ h => h) (by rfl) ?_ (by assumption) ?_; rotate_left
  · intro w' hSw; (try dsimp only at hSw); go_simp; (try with_reducible rfl)
  try simp only [Act.put, List.setIfInBounds_toArray, List.set_cons_zero, List.set_cons_succ, List.getElem_toArray, List.getElem_cons_succ, List.getElem_cons_zero]
  refine yieldH (i := 2) (v := ?_) rfl (by kernel_rfl) (by kernel_rfl) (by kernel_rfl) (fun _ _ _ h => h) (by rfl) ?_ (by assumption) ?_; rotate_left
  · intro w' hSw; (try dsimp only at hSw); go_simp; (try with_reducible rfl)
  try simp only [Act.put, List.setIfInBounds_toArray, List.set_cons_zero, List.set_cons_succ, List.getElem_toArray, List.getElem_cons_succ, List.getElem_cons_zero]
  refine yieldH (i := 4) (v := ?_) rfl (by kernel_rfl) (by kernel_rfl) (by kernel_rfl) (fun _ _ _ h => h) (by rfl) ?_ (by assumption) ?_; rotate_left
  · intro w' hSw; (try dsimp only at hSw); go_simp; (try with_reducible rfl)
  try simp only [Act.put, List.setIfInBounds_toArray, List.set_cons_zero, List.set_cons_succ, List.getElem_toArray, List.getElem_cons_succ, List.getElem_cons_zero]
  refine yieldH (i := 5) (v := ?_) rfl (by kernel_rfl) (by kernel_rfl) (by kernel_rfl) (fun _ _ _ h => h) (by rfl) ?_ (by assumption) ?_; rotate_left
  · intro w' hSw; (try dsimp only at hSw); go_simp; (try with_reducible rfl)
  try simp only [Act.put, List.setIfInBounds_toArray, List.set_cons_zero, List.set_cons_succ, List.getElem_toArray, List.getElem_cons_succ, List.getElem_cons_zero]
  refine yieldH (i := 6) (v := ?_) rfl (by kernel_rfl) (by kernel_rfl) (by kernel_rfl) (fun _ _ _ h => h) (by rfl) ?_ (by assumption) ?_; rotate_left
  · intro w' hSw; (try dsimp only at hSw); go_simp; (try with_reducible rfl)
  try simp only [Act.put, List.setIfInBounds_toArray, List.set_cons_zero, List.set_cons_succ, List.getElem_toArray, List.getElem_cons_succ, List.getElem_cons_zero]
  refine wpAnyH_ready (rs := [3]) (by kernel_rfl) (by simp) ?_
  refine (AllReadyH.cons rfl (fun Kc hK => ?_) AllReadyH.nil)
  go_simp
  go_at_call 25; refine (HBT.out _).mono ?_; rintro e w7 ⟨rfl, hb7⟩; have k7 : Below w6.heap.size w6 w7 := keepB hAd (Nat.le_refl _) hb7
  try dsimp only
  refine hK.out _ _ ?_ (fun hHeld => ?_)
  · (try dsimp only); exact HSG.out _ k7
  clear hK Kc
  try simp only [Act.put, List.setIfInBounds_toArray, List.set_cons_zero, List.set_cons_succ, List.getElem_toArray, List.getElem_cons_succ, List.getElem_cons_zero]
  refine wpAnyH_ready (rs := [7]) (by kernel_rfl) (by simp) ?_
  refine (AllReadyH.cons rfl (fun Kc hK => ?_) AllReadyH.nil)
  go_simp
  go_at_call 26; refine (HCT.out _ (keepB k6 (Nat.le_refl _) k7)).mono ?_; rintro e w8 ⟨rfl, hb8⟩; have k8 : Below w6.heap.size w6 w8 := keepB k7 (Nat.le_refl _) hb8
  try dsimp only
  refine hK.out _ _ ?_ (fun hHeld => ?_)
  · (try dsimp only); exact HSG.out _ k8
  clear hK Kc
  try simp only [Act.put, List.setIfInBounds_toArray, List.set_cons_zero, List.set_cons_succ, List.getElem_toArray, List.getElem_cons_succ, List.getElem_cons_zero]
  refine wpAnyH_ready (rs := [8]) (by kernel_rfl) (by simp) ?_
  refine (AllReadyH.cons rfl (fun Kc hK => ?_) AllReadyH.nil)
  go_simp
  try dsimp only
  refine hK.out _ _ ?_ (fun hHeld => ?_)
  · (try dsimp only); exact HSG.out _ (keepB k8 (Nat.le_refl _) (all_alloc _ _))
  clear hK Kc
  try simp only [Act.put, List.setIfInBounds_toArray, List.set_cons_zero, List.set_cons_succ, List.getElem_toArray, List.getElem_cons_succ, List.getElem_cons_zero]
  refine wpAnyH_ready (rs := [9]) (by kernel_rfl) (by simp) ?_
  refine (AllReadyH.cons rfl (fun Kc hK => ?_) AllReadyH.nil)
  go_simp
  go_at_call 24; refine (HJ.out _).mono ?_; rintro e w9 ⟨rfl, hb9⟩; have k9 : Below w6.heap.size w6 w9 := keepB (keepB k8 (Nat.le_refl _) (all_alloc _ _)) (Nat.le_refl _) hb9
  try dsimp only
  refine hK.out _ _ ?_ (fun hHeld => ?_)
  · (try dsimp only); exact HSG.out _ k9
  clear hK Kc
  try simp only [Act.put, List.setIfInBounds_toArray, List.set_cons_zero, List.set_cons_succ, List.getElem_toArray, List.getElem_cons_succ, List.getElem_cons_zero]
  refine yieldH (i := 10) (v := ?_) rfl (by kernel_rfl) (by kernel_rfl) (by kernel_rfl) (fun _ _ _ h => h) (by rfl) ?_ (by assumption) ?_; rotate_left
  · intro w' hSw; (try dsimp only at hSw); go_simp; (try with_reducible rfl)
  try simp only [Act.put, List.setIfInBounds_toArray, List.set_cons_zero, List.set_cons_succ, List.getElem_toArray, List.getElem_cons_succ, List.getElem_cons_zero]
  have hR9 : Hid _ := blk hR6.out k9
  have z0 := cellW hR9.out 0 _ rfl w9 (Below.refl _ _)
  have z1 := cellW hR9.out 1 _ rfl w9 (Below.refl _ _)
  have z2 := cellW hR9.out 2 _ rfl w9 (Below.refl _ _)
  have z3 := cellW hR9.out 3 _ rfl w9 (Below.refl _ _)
  have f0 := frozenW hR9.out 0 w9 (Below.refl _ _)
  have f1 := frozenW hR9.out 1 w9 (Below.refl _ _)
  have f2 := frozenW hR9.out 2 w9 (Below.refl _ _)
  have f3 := frozenW hR9.out 3 w9 (Below.refl _ _)
  have own9 : OwnT w9 (w.heap.size + 1 + 1) (.slice r1 t.cs.length d1) (.slice r2 t.rs.length d2) t := own6.out.below k9
  have hB9 : Below w.heap.size w w9 := keepB hB6 (Nat.le_refl _) k9
  refine wpAnyH_ready (rs := [11]) (by kernel_rfl) (by simp) ?_
  refine (AllReadyH.cons rfl (fun Kc hK => ?_) AllReadyH.nil)
  go_simp
  try dsimp only
  refine hK.out _ _ ?_ (fun hHeld => ?_)
  · (try dsimp only); exact ⟨((((hB9.setCell (by simp only; omega) _).setCell (by simp only; omega) _).setCell (by simp only; omega) _).setCell (by simp only; omega) _), blk_far (blk_far (blk_far (blk_far (blk hG6.out k9) (by simp only; omega) _) (by simp only; omega) _) (by simp only; omega) _) (by simp only; omega) _, blk_far (blk_far (blk_far (blk_far (blk hQ6.out k9) (by simp only; omega) _) (by simp only; omega) _) (by simp only; omega) _) (by simp only; omega) _⟩
  clear hK Kc
  try simp only [Act.put, List.setIfInBounds_toArray, List.set_cons_zero, List.set_cons_succ, List.getElem_toArray, List.getElem_cons_succ, List.getElem_cons_zero]
  refine wpAnyH_done (by kernel_rfl) ?_ _
  go_wp2
  exact bodyPost_ret (v := .agg #[.slice r1 t.cs.length d1, .slice r2 t.rs.length d2, .string R, .int .i64 0]) (by simp [results, Tryd.results7, go_sem, z0, z1, z2, z3]) rfl ⟨_, _, rfl, OwnT.leT (OwnT.farT (OwnT.farT (OwnT.farT (OwnT.farT own9 (by simp only; omega) _) (by simp only; omega) _) (by simp only; omega) _) (by simp only; omega) _) (by omega), ((((hB9.setCell (by simp only; omega) _).setCell (by simp only; omega) _).setCell (by simp only; omega) _).setCell (by simp only; omega) _)⟩
set_option maxRecDepth 100000 in
set_option maxHeartbeats 3200000 in
theorem serve_set (t : Tb) (s : ByteArray) (B : Nat) (v1 v2 : Value) (w : World) (hz : s.size ≤ 9223372036854775807) (hl1 : t.cs.length ≤ 10000000) (hl2 : t.rs.length ≤ 10000000) (h : OwnT w B v1 v2 t) (f v p : Addr) (hS : Sents w f v p) (h0 : 0 < s.size) (h8 : s.size ≤ 8000) (hT : t.right = true) (hk : knownB (byteAt s 0 : Int) = true) (hC : (outA s).2 = 0) (hTh : thereB t (outA s).1 = true) (hq : ¬ ((outA s).1.c = 1 ∨ (outA s).1.c = 3)) :
    Calls Tryd.prog 7 #[.agg #[v1, v2], .string s] w fun e w' => ∃ u1 u2, e = .returned (.agg #[u1, u2, .string (s.extract 0 5), .int .i64 0]) ∧ OwnT w' w.heap.size u1 u2 (t.put (outA s).1) ∧ Below w.heap.size w w' := by
  obtain ⟨p1, c1, rfl⟩ := h.c.shape
  obtain ⟨p2, c2, rfl⟩ := h.r.shape
  have HO : Hid (OwnT _ _ _ _ _) := h
  clear h
  obtain ⟨⟨hm1', _⟩, hm2', _⟩ := (Tb.right_iff t).1 hT
  have HTA : Hid (∀ (W : World) (P : Nat) (r1 r2 : Option Addr) (d1 d2 : Nat), W.heap[P]? = some (.cells #[.slice r1 t.cs.length d1, .slice r2 t.rs.length d2] 26 (0, 0)) → Sents W f v p → Calls Tryd.prog 21 #[.string s, .func (.func 19) #[] #[.pointer (some ⟨P, 0, none⟩)]] W fun e w' => ∃ v', e = .returned (.tuple #[.agg #[.int .i64 (outA s).1.c, .int .i64 (outA s).1.a, .int .i64 (outA s).1.m, v'], .nilIface]) ∧ OwnI w' W.heap.size v' (outA s).1.vs ∧ Below W.heap.size W w') := fun W P r1 r2 d1 d2 h1 h2 => takeAsk_0 t s P r1 r2 d1 d2 f v p W h0 h8 (by omega) (by omega) h1 h2 hk hC hTh
  obtain ⟨hR, hask, h5⟩ := outA_q hC
  have hb := outA_right hC
  have hc6 := Ak.codes hR
  generalize (outA s).1 = q at HTA hR hb hc6 hTh hq ⊢
  have hth : q.a + q.m ≤ ((t.cells q.c).length : Int) := by unfold thereB at hTh; rwa [decide_eq_true_eq] at hTh
  obtain ⟨hvs, hm1, hm16, hbt, hwd⟩ := set_fit hR hq
  have HNC : Hid (∀ (W : World) (v v1 v2 : Value) (gr cr : Nat), (∃ p n c, v = .slice p n c) → (∃ p k, v1 = .slice p t.cs.length k) → (∃ p k, v2 = .slice p t.rs.length k) → (if coilB q.c then v1 else v2) = .slice (some ⟨gr, 0, none⟩) (t.cells q.c).length cr → (t.cells q.c).length ≤ cr → Calls Tryd.prog 23 #[.agg #[v1, v2], .agg #[.int .i64 q.c, .int .i64 q.a, .int .i64 q.m, v]] W fun e w' => e = .returned (.slice (some ⟨gr, q.a.toNat, none⟩) q.m.toNat q.m.toNat) ∧ Below W.heap.size W w') := fun W v v1 v2 gr cr hv h1 h2 h3 h4 => namedCells_any t q v v1 v2 W hv hb.1 ⟨hm1, hb.2.2⟩ h1 h2 gr cr h3 h4 hth
  have HCX : Hid (∀ W : World, Calls Tryd.prog 27 #[.string (s.extract 0 5)] W fun e w' => e = .returned (.string (s.extract 0 5)) ∧ Below W.heap.size W w') := fun W => copyText_any _ W (by rw [ByteArray.size_extract]; omega)
  have hsl : ∀ W : World, (Instr.slice 9 (.string s) none (some (.int .i64 5)) none).run Tryd.prog W = .ok (.string (s.extract 0 5)) W := fun W => by rw [run_slice_string_to_if W 9 s .i64 5 Tryd.underlying9, if_pos (by omega)]; rfl
  generalize s.extract 0 5 = R at HCX hsl ⊢
  have ev0 : ((q.vs.length : Int) == 0) = false := by simp; intro e; rw [e] at hvs; simp at hvs; omega
  have evl : ¬ q.vs.length = 0 := by omega
  have evm : q.m.toNat = q.vs.length := by omega
  have hfit : q.a.toNat + q.vs.length ≤ (t.cells q.c).length := by omega
  have hpos : 0 < q.vs.length := by omega
  have hput := put_lens t q hfit
  clear hR hask hb hc6 hTh hq hk hC hbt hwd
  have h8' : ¬ (8000 : Int) < s.size := by omega
  have qE : (s.toList == ([] : List UInt8)) = false := by rw [empty_iff, decide_eq_false (by omega)]
  have HR : Hid (∀ W, Below w.heap.size w W → Calls Tryd.prog 17 #[.agg #[.slice p1 t.cs.length c1, .slice p2 t.rs.length c2]] W fun e w' => e = .returned (.bool true) ∧ Below W.heap.size W w') := fun W hW => by
    have := tableRight_any t p1 p2 c1 c2 W hl1 hl2 (HO.out.c.below hW).row (HO.out.r.below hW).row
    rwa [hT] at this
  obtain ⟨⟨hn1, _⟩, hn2, _⟩ := (Tb.right_iff t).1 hT
  have HCP : Hid (∀ W, Below w.heap.size w W → Calls Tryd.prog 18 #[.agg #[.slice p1 t.cs.length c1, .slice p2 t.rs.length c2]] W fun e w' => ∃ u1 u2, e = .returned (.agg #[u1, u2]) ∧ OwnT w' W.heap.size u1 u2 t ∧ Below W.heap.size W w') := fun W hW => copyTable_any t B _ _ W (by omega) (by omega) (HO.out.below hW)
  have HS : Hid (Sents w f v p) := hS
  clear HO hS
  have hX : Hid _ := blk (heap_alloc_new w (.cells #[.slice p1 t.cs.length c1, .slice p2 t.rs.length c2] 26)) (all_alloc _ (.cells #[.slice none 0 0, .slice none 0 0, .string ⟨#[]⟩, .int .i64 0] 28))
  have hY : Hid _ := heap_alloc_new (w.alloc (.cells #[.slice p1 t.cs.length c1, .slice p2 t.rs.length c2] 26)) (.cells #[.slice none 0 0, .slice none 0 0, .string ⟨#[]⟩, .int .i64 0] 28)
  have hA0 : Below w.heap.size w ((w.alloc (.cells #[.slice p1 t.cs.length c1, .slice p2 t.rs.length c2] 26)).alloc (.cells #[.slice none 0 0, .slice none 0 0, .string ⟨#[]⟩, .int .i64 0] 28)) := keepB (all_alloc w _) (Nat.le_refl _) (all_alloc _ _)
  have e1 : (w.alloc (.cells #[.slice p1 t.cs.length c1, .slice p2 t.rs.length c2] 26)).heap.size = w.heap.size + 1 := by simp
  have e3 : ((w.alloc (.cells #[.slice p1 t.cs.length c1, .slice p2 t.rs.length c2] 26)).alloc (.cells #[.slice none 0 0, .slice none 0 0, .string ⟨#[]⟩, .int .i64 0] 28)).heap.size = w.heap.size + 1 + 1 := by simp
  rw [e1] at hY
  go_enter Tryd.func7, Tryd.ntmps7
  go_upto_region 1 with fail
  generalize (w.alloc (.cells #[.slice p1 t.cs.length c1, .slice p2 t.rs.length c2] 26)).alloc (.cells #[.slice none 0 0, .slice none 0 0, .string ⟨#[]⟩, .int .i64 0] 28) = A at hX hY hA0 e3 ⊢
  clear e1
  have x0 := cellW hX.out 0 _ rfl A (Below.refl _ _)
  have x1 := cellW hX.out 1 _ rfl A (Below.refl _ _)
  go_upto_region 6 with (first
    | (go_at_call 17; refine (HR.out _ hA0).mono ?_; rintro e w1 ⟨rfl, hb1⟩; have a0 := cellW hX.out 0 _ rfl w1 hb1; have a1 := cellW hX.out 1 _ rfl w1 hb1)
    | (go_at_call 18; refine (HCP.out _ (keepB hA0 (Nat.le_refl _) hb1)).mono ?_; rintro e w2 ⟨u1, u2, rfl, own2, hb2⟩; obtain ⟨r1, d1, rfl⟩ := own2.c.shape; obtain ⟨r2, d2, rfl⟩ := own2.r.shape; have hX2 : Hid _ := blk (blk hX.out hb1) hb2; have b0 := cellW hX2.out 0 _ rfl w2 (Below.refl _ _); have b1 := cellW hX2.out 1 _ rfl w2 (Below.refl _ _); have g0 := frozenW hX2.out 0 w2 (Below.refl _ _); have g1 := frozenW hX2.out 1 w2 (Below.refl _ _)))
  have hs1 : w.heap.size + 1 + 1 ≤ w1.heap.size := by have := hb1.size; omega
  have hG3 : Hid (_ = some (Obj.cells #[.slice r1 t.cs.length d1, .slice r2 t.rs.length d2] 26 (0, 0))) := blk_set (blk_set hX2.out 0 (.slice r1 t.cs.length d1)) 1 (.slice r2 t.rs.length d2)
  have hR3 : Hid _ := blk_far (a := ⟨w.heap.size, 1, none⟩) (blk_far (a := ⟨w.heap.size, 0, none⟩) (blk (blk hY.out hb1) hb2) (by simp only; omega) (.slice r1 t.cs.length d1)) (by simp only; omega) (.slice r2 t.rs.length d2)
  have own3 : Hid (OwnT _ (w.heap.size + 1 + 1) (.slice r1 t.cs.length d1) (.slice r2 t.rs.length d2) t) := OwnT.farT (OwnT.farT (OwnT.leT own2 hs1) (a := ⟨w.heap.size, 0, none⟩) (by simp only; omega) (.slice r1 t.cs.length d1)) (a := ⟨w.heap.size, 1, none⟩) (by simp only; omega) (.slice r2 t.rs.length d2)
  have hB3 : Below w.heap.size w ((w2.setCell ⟨w.heap.size, 0, none⟩ (.slice r1 t.cs.length d1)).setCell ⟨w.heap.size, 1, none⟩ (.slice r2 t.rs.length d2)) := ((keepB (keepB hA0 (Nat.le_refl _) hb1) (Nat.le_refl _) hb2).setCell (Nat.le_refl _) _).setCell (Nat.le_refl _) _
  have hs3 : w.heap.size + 1 + 1 ≤ ((w2.setCell ⟨w.heap.size, 0, none⟩ (.slice r1 t.cs.length d1)).setCell ⟨w.heap.size, 1, none⟩ (.slice r2 t.rs.length d2)).heap.size := by simp [World.setCell]; have := hb2.size; omega
  generalize (w2.setCell ⟨w.heap.size, 0, none⟩ (.slice r1 t.cs.length d1)).setCell ⟨w.heap.size, 1, none⟩ (.slice r2 t.rs.length d2) = w3 at hG3 hR3 own3 hB3 hs3 ⊢
  have S3 : Hid (Sents w3 f v p) := HS.out.below hB3
  clear HS HR HCP hb1 hb2 own2 hX hY hX2 b0 b1 g0 g1 a0 a1 x0 x1 hA0 e3 hs1
  clear w1 w2
  have hmf : ∀ (fn : Fn) (first cap : Array Value) (w : World), (Instr.makeFunc fn first cap).run Tryd.prog w = .ok (.func fn first cap) w := fun _ _ _ _ => rfl
  obtain ⟨gr, cr, hrow, hcr⟩ : ∃ gr cr, (if coilB q.c then Value.slice r1 t.cs.length d1 else .slice r2 t.rs.length d2) = .slice (some ⟨gr, 0, none⟩) (t.cells q.c).length cr ∧ (t.cells q.c).length ≤ cr := own3.out.pick q.c (by omega)
  have HNC1 : Hid (∀ (W : World) (v : Value), (∃ p n c, v = .slice p n c) → Calls Tryd.prog 23 #[.agg #[.slice r1 t.cs.length d1, .slice r2 t.rs.length d2], .agg #[.int .i64 q.c, .int .i64 q.a, .int .i64 q.m, v]] W fun e w' => e = .returned (.slice (some ⟨gr, q.a.toNat, none⟩) q.vs.length q.vs.length) ∧ Below W.heap.size W w') := fun W v hv => by
    have := HNC.out W v _ _ gr cr hv ⟨_, _, rfl⟩ ⟨_, _, rfl⟩ hrow hcr
    rwa [evm] at this
  have HPUT : Hid (∀ (W W' : World), OwnT W (w.heap.size + 1 + 1) (.slice r1 t.cs.length d1) (.slice r2 t.rs.length d2) t → OwnI W' (w.heap.size + 1 + 1) (.slice (some ⟨gr, 0, none⟩) (t.cells q.c).length cr) (putL (t.cells q.c) q.a.toNat q.vs) → W.grownBy W' (some gr) → OwnT W' (w.heap.size + 1 + 1) (.slice r1 t.cs.length d1) (.slice r2 t.rs.length d2) (t.put q)) := fun W W' h1 h2 h3 => OwnT.put1 hrow h1 h2 h3
  have HPK : Hid (∀ W : World, OwnT W (w.heap.size + 1 + 1) (.slice r1 t.cs.length d1) (.slice r2 t.rs.length d2) t → OwnI W (w.heap.size + 1 + 1) (.slice (some ⟨gr, 0, none⟩) (t.cells q.c).length cr) (t.cells q.c)) := fun W h => by have := h.pickOwn q.c; rwa [hrow] at this
  have HTA1 : Hid (Calls Tryd.prog 21 #[.string s, .func (.func 19) #[] #[.pointer (some ⟨w.heap.size, 0, none⟩)]] w3 fun e w' => ∃ v', e = .returned (.tuple #[.agg #[.int .i64 q.c, .int .i64 q.a, .int .i64 q.m, v'], .nilIface]) ∧ OwnI w' w3.heap.size v' q.vs ∧ Below w3.heap.size w3 w') := HTA.out w3 w.heap.size r1 r2 d1 d2 hG3.out S3.out
  clear HNC HTA hrow hcr hth
  go_upto_region 8 with (go_at_call 21; refine HTA1.out.mono ?_; rintro e w4 ⟨uq, rfl, own4, hb4⟩; obtain ⟨pv, cv, rfl⟩ := own4.shape)
  have k5 : Below w3.heap.size w3 (w4.alloc (.cells #[.int .i64 q.c, .int .i64 q.a, .int .i64 q.m, .slice pv q.vs.length cv] 43)) := keepB hb4 (Nat.le_refl _) (all_alloc _ _)
  have hQ5 : Hid _ := heap_alloc_new w4 (.cells #[.int .i64 q.c, .int .i64 q.a, .int .i64 q.m, .slice pv q.vs.length cv] 43)
  have oq5 : Hid (OwnI (w4.alloc (.cells #[.int .i64 q.c, .int .i64 q.a, .int .i64 q.m, .slice pv q.vs.length cv] 43)) w3.heap.size (.slice pv q.vs.length cv) q.vs) := own4.below (all_alloc _ _)
  have hGQ : w3.heap.size ≤ w4.heap.size := hb4.size
  have hGQ2 : ∀ k, (Value.slice pv q.vs.length cv).ownBlock = some k → k < w4.heap.size := fun k hk => (OwnI.lt own4 k hk).2
  generalize w4.alloc (.cells #[.int .i64 q.c, .int .i64 q.a, .int .i64 q.m, .slice pv q.vs.length cv] 43) = A5 at k5 hQ5 oq5 ⊢
  generalize w4.heap.size = GQ at hQ5 hGQ hGQ2 ⊢
  clear own4 hb4 HTA1
  have hG5 : Hid _ := blk hG3.out k5
  have q0 := cellW hG5.out 0 _ rfl A5 (Below.refl _ _)
  have q1 := cellW hG5.out 1 _ rfl A5 (Below.refl _ _)
  have a0 := cellW hQ5.out 0 _ rfl A5 (Below.refl _ _)
  have a1 := cellW hQ5.out 1 _ rfl A5 (Below.refl _ _)
  have a2 := cellW hQ5.out 2 _ rfl A5 (Below.refl _ _)
  have a3 := cellW hQ5.out 3 _ rfl A5 (Below.refl _ _)
  go_upto_region 11 with (go_at_call 23; refine (HNC1.out _ _ ⟨_, _, _, rfl⟩).mono ?_; rintro e w6 ⟨rfl, hb6⟩)
  have k6 : Below w3.heap.size w3 w6 := keepB k5 (Nat.le_refl _) hb6
  have hQ6 : Hid _ := blk hQ5.out hb6
  have oq6 : Hid (OwnI w6 w3.heap.size (.slice pv q.vs.length cv) q.vs) := oq5.out.below hb6
  have own6 : Hid (OwnT w6 (w.heap.size + 1 + 1) (.slice r1 t.cs.length d1) (.slice r2 t.rs.length d2) t) := own3.out.below k6
  have hB6 : Below w.heap.size w w6 := keepB hB3 (Nat.le_refl _) k6
  have hG6 : Hid _ := blk hG3.out k6
  have hR6 : Hid _ := blk hR3.out k6
  have hgr : w.heap.size + 1 + 1 ≤ gr ∧ gr < w3.heap.size := OwnI.lt (HPK.out _ own3.out) gr rfl
  clear q0 q1 a0 a1 a2 a3 hG5 hQ5 k5 hG3 hR3 own3 S3 hb6 oq5
  have a3 := cellW hQ6.out 3 _ rfl w6 (Below.refl _ _)
  go_upto_region 13 with fail
  go_wp2_with (refine wpList_copy_put rfl (.tmp 56) (.tmp 58) rfl (w.heap.size + 1 + 1) gr cr q.a.toNat w3.heap.size (t.cells q.c) q.vs pv cv _ rfl hpos rfl rfl (HPK.out _ own6.out) oq6.out hfit ?_; intro w7 hO7 hg7)
  have own7 : Hid (OwnT w7 (w.heap.size + 1 + 1) (.slice r1 t.cs.length d1) (.slice r2 t.rs.length d2) (t.put q)) := HPUT.out _ _ own6.out hO7 hg7
  have hB7 : Below w.heap.size w w7 := Below.grown hB6 hg7 hB6.size (fun k e => by cases e; omega)
  have hlt6 : w.heap.size + 1 < w6.heap.size := by have := k6.size; omega
  have hG7 : Hid _ := (hg7.block w.heap.size (by omega) (by intro e; cases e; omega)).trans hG6.out
  have hR7 : Hid _ := (hg7.block (w.heap.size + 1) (by omega) (by intro e; cases e; omega)).trans hR6.out
  clear hO7 hg7 own6 hB6 hQ6 a3 oq6 hG6 hR6 HPUT HPK
  have hAd : Below w7.heap.size w7 w7.drew := Below.drew (Below.refl _ _)
  have q0 := cellW hG7.out 0 _ rfl
  have q1 := cellW hG7.out 1 _ rfl
  go_region_with (go_at_call 27; refine (HCX.out _).mono ?_; rintro e w9 ⟨rfl, hb9⟩; have k9 : Below w7.heap.size w7 w9 := keepB hAd (Nat.le_refl _) hb9; have hR9 : Hid _ := blk hR7.out k9; have z0 := cellW hR9.out 0 _ rfl w9 (Below.refl _ _); have z1 := cellW hR9.out 1 _ rfl w9 (Below.refl _ _); have z2 := cellW hR9.out 2 _ rfl w9 (Below.refl _ _); have z3 := cellW hR9.out 3 _ rfl w9 (Below.refl _ _); have f0 := frozenW hR9.out 0 w9 (Below.refl _ _); have f1 := frozenW hR9.out 1 w9 (Below.refl _ _); have f2 := frozenW hR9.out 2 w9 (Below.refl _ _); have f3 := frozenW hR9.out 3 w9 (Below.refl _ _))
  all_goals
    go_wp2
    have own9 : OwnT w9 (w.heap.size + 1 + 1) (.slice r1 t.cs.length d1) (.slice r2 t.rs.length d2) (t.put q) := own7.out.below k9
    have hB9 : Below w.heap.size w w9 := keepB hB7 (Nat.le_refl _) k9
    exact bodyPost_ret (v := .agg #[.slice r1 t.cs.length d1, .slice r2 t.rs.length d2, .string R, .int .i64 0]) (by simp [results, Tryd.results7, go_sem, z0, z1, z2, z3]) rfl ⟨_, _, rfl, OwnT.leT (OwnT.farT (OwnT.farT (OwnT.farT (OwnT.farT own9 (by simp only; omega) _) (by simp only; omega) _) (by simp only; omega) _) (by simp only; omega) _) (by omega), ((((hB9.setCell (by simp only; omega) _).setCell (by simp only; omega) _).setCell (by simp only; omega) _).setCell (by simp only; omega) _)⟩
end Go.Proofs.YtfpibedloodjlabDoor
