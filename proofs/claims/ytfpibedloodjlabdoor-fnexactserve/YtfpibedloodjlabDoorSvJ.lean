/- A QUESTION SERVED by the model: what sets. -/
import Derived.Test.YtfpibedloodjlabDoorSvI
import Derived.Test.YtfpibedloodjlabDoorTabL
namespace Go.Proofs.YtfpibedloodjlabDoor
open Go.RowKit
set_option linter.unusedVariables false
set_option linter.unusedSimpArgs false

theorem putL_nil (l : List Int) (a : Nat) : putL l a [] = l := by unfold putL; simp
theorem putL_step (l : List Int) (a : Nat) (vs : List Int) (k : Nat) (hk : k < vs.length) (h : a + vs.length ≤ l.length) : (putL l a (vs.take k)).set (a + k) vs[k] = putL l a (vs.take (k + 1)) := by
  unfold putL
  have hlk : (vs.take k).length = k := by rw [List.length_take]; omega
  have hlk1 : (vs.take (k + 1)).length = k + 1 := by rw [List.length_take]; omega
  rw [hlk, hlk1, ← List.append_assoc]
  have hp : (l.take a ++ vs.take k).length = a + k := by rw [List.length_append, hlk, List.length_take]; omega
  have hne : l.drop (a + k) ≠ [] := by intro e; have := congrArg List.length e; rw [List.length_drop] at this; simp at this; omega
  have := set_midI (l := l.take a ++ vs.take k) (m := l.drop (a + k)) (c := vs[k]) hne
  rw [hp] at this
  rw [this, List.take_succ_eq_append_getElem hk, List.drop_drop]
  simp only [List.append_assoc]
  rw [Nat.add_assoc]
/-- what stands while the model sets -/
structure LpS (w : World) (GO : Nat) (o1 o2 o3 : Obj) (u1 u2 : Value) (T : Tb) (wr : World) : Prop where
  bel : Below w.heap.size w wr
  out : wr.heap[GO]? = some o1
  ask : wr.heap[w.heap.size + 1]? = some o2
  res : wr.heap[w.heap.size + 1 + 1]? = some o3
  own : OwnT wr (w.heap.size + 1 + 1 + 1) u1 u2 T
set_option maxRecDepth 100000 in
set_option maxHeartbeats 3200000 in
theorem l05Serve_coil (t : Tb) (c : Int) (a : Nat) (m : Int) (vs : List Int) (pv : Option Addr) (cv b2 : Nat) (s : ByteArray) (B : Nat) (v1 v2 : Value) (w : World) (hc5 : 5 ≤ c ∧ c ≤ 16) (hcb : coilB c = true) (ha : a ≤ 65535) (hm : (vs.length : Int) = m) (hv1 : 1 ≤ vs.length ∧ vs.length ≤ 16) (hle : a + vs.length ≤ t.cs.length) (hn1 : t.cs.length ≤ 24) (hn2 : t.rs.length ≤ 12) (h5 : 5 ≤ s.size) (h8 : s.size ≤ 8000) (h : OwnT w B v1 v2 t) (hsrc : OwnI w b2 (.slice pv vs.length cv) vs) :
    Calls Tryd.prog 35 #[.agg #[v1, v2], .agg #[.int .i64 c, .int .i64 (a : Int), .int .i64 m, .slice pv vs.length cv], .string s] w fun e w' => ∃ u1 u2, e = .returned (.tuple #[.agg #[u1, u2], .string (s.extract 0 5)]) ∧ OwnT w' w.heap.size u1 u2 ⟨putL t.cs a vs, t.rs⟩ ∧ Below w.heap.size w w' := by
  obtain ⟨p1, c1, rfl⟩ := h.c.shape
  obtain ⟨p2, c2, rfl⟩ := h.r.shape
  have HO : Hid (OwnT _ _ _ _ _) := h
  have HV : Hid (OwnI _ _ _ vs) := hsrc
  clear h hsrc
  subst hm
  obtain ⟨gv, hpv, _⟩ := HV.out.cell 0 (by omega)
  subst hpv
  have Hc : ∀ W : World, (convert 60 9 (.slice (some ⟨W.heap.size, 0, none⟩) 1 1)).run Tryd.prog (W.alloc (.cells #[.int .u8 c] 5)) = .ok (.string (oneB c)) (W.alloc (.cells #[.int .u8 c] 5)) := fun W => conv_one W c (by omega)
  have ew : IntKind.u8.wrap c = c := by
    have : c = 5 ∨ c = 6 ∨ c = 7 ∨ c = 8 ∨ c = 9 ∨ c = 10 ∨ c = 11 ∨ c = 12 ∨ c = 13 ∨ c = 14 ∨ c = 15 ∨ c = 16 := by omega
    rcases this with rfl | rfl | rfl | rfl | rfl | rfl | rfl | rfl | rfl | rfl | rfl | rfl <;> decide
  have ce1 : (c == 1) = false := by simp; omega
  have ce3 : (c == 3) = false := by simp; omega
  have HCO : Hid (∀ W, Calls Tryd.prog 47 #[.int .i64 c] W fun e w' => e = .returned (.bool true) ∧ W = w') := fun W => by have := l05OfCoils_any c W; rwa [hcb] at this
  have hsl : ∀ W : World, (Instr.slice 9 (.string s) none (some (.int .i64 5)) none).run Tryd.prog W = .ok (.string (s.extract 0 5)) W := fun W => by rw [run_slice_string_to_if W 9 s .i64 5 Tryd.underlying9, if_pos (by omega)]; rfl
  generalize s.extract 0 5 = R at hsl ⊢
  generalize oneB c = t1 at Hc
  clear hcb
  have HCP : Hid (∀ W, Below w.heap.size w W → Calls Tryd.prog 34 #[.agg #[.slice p1 t.cs.length c1, .slice p2 t.rs.length c2]] W fun e w' => ∃ u1 u2, e = .returned (.agg #[u1, u2]) ∧ OwnT w' W.heap.size u1 u2 t ∧ Below W.heap.size W w') := fun W hW => l05Copy_any t B _ _ W (by omega) (by omega) (HO.out.below hW)
  have hX : Hid _ := blk (blk (heap_alloc_new w (.cells #[.slice p1 t.cs.length c1, .slice p2 t.rs.length c2] 26)) (all_alloc _ (.cells #[.int .i64 c, .int .i64 (a : Int), .int .i64 (vs.length : Int), .slice (some ⟨gv, 0, none⟩) vs.length cv] 43))) (all_alloc _ (.cells #[.slice none 0 0, .slice none 0 0] 26))
  have hQ : Hid _ := blk (heap_alloc_new (w.alloc (.cells #[.slice p1 t.cs.length c1, .slice p2 t.rs.length c2] 26)) (.cells #[.int .i64 c, .int .i64 (a : Int), .int .i64 (vs.length : Int), .slice (some ⟨gv, 0, none⟩) vs.length cv] 43)) (all_alloc _ (.cells #[.slice none 0 0, .slice none 0 0] 26))
  have hY : Hid _ := heap_alloc_new ((w.alloc (.cells #[.slice p1 t.cs.length c1, .slice p2 t.rs.length c2] 26)).alloc (.cells #[.int .i64 c, .int .i64 (a : Int), .int .i64 (vs.length : Int), .slice (some ⟨gv, 0, none⟩) vs.length cv] 43)) (.cells #[.slice none 0 0, .slice none 0 0] 26)
  have hA0 : Below w.heap.size w (((w.alloc (.cells #[.slice p1 t.cs.length c1, .slice p2 t.rs.length c2] 26)).alloc (.cells #[.int .i64 c, .int .i64 (a : Int), .int .i64 (vs.length : Int), .slice (some ⟨gv, 0, none⟩) vs.length cv] 43)).alloc (.cells #[.slice none 0 0, .slice none 0 0] 26)) := keepB (keepB (all_alloc w _) (Nat.le_refl _) (all_alloc _ _)) (Nat.le_refl _) (all_alloc _ _)
  have e1 : (w.alloc (.cells #[.slice p1 t.cs.length c1, .slice p2 t.rs.length c2] 26)).heap.size = w.heap.size + 1 := by simp
  have e2 : ((w.alloc (.cells #[.slice p1 t.cs.length c1, .slice p2 t.rs.length c2] 26)).alloc (.cells #[.int .i64 c, .int .i64 (a : Int), .int .i64 (vs.length : Int), .slice (some ⟨gv, 0, none⟩) vs.length cv] 43)).heap.size = w.heap.size + 1 + 1 := by simp
  have e3 : (((w.alloc (.cells #[.slice p1 t.cs.length c1, .slice p2 t.rs.length c2] 26)).alloc (.cells #[.int .i64 c, .int .i64 (a : Int), .int .i64 (vs.length : Int), .slice (some ⟨gv, 0, none⟩) vs.length cv] 43)).alloc (.cells #[.slice none 0 0, .slice none 0 0] 26)).heap.size = w.heap.size + 1 + 1 + 1 := by simp
  rw [e1] at hQ
  rw [e2] at hY
  go_enter Tryd.func35, Tryd.ntmps35
  go_upto_region 1 with fail
  generalize ((w.alloc (.cells #[.slice p1 t.cs.length c1, .slice p2 t.rs.length c2] 26)).alloc (.cells #[.int .i64 c, .int .i64 (a : Int), .int .i64 (vs.length : Int), .slice (some ⟨gv, 0, none⟩) vs.length cv] 43)).alloc (.cells #[.slice none 0 0, .slice none 0 0] 26) = A at hX hQ hY hA0 e3 ⊢
  clear e1 e2
  have x0 := cellW hX.out 0 _ rfl A (Below.refl _ _)
  have x1 := cellW hX.out 1 _ rfl A (Below.refl _ _)
  go_upto_region 2 with (go_at_call 34; refine (HCP.out _ hA0).mono ?_; rintro e w2 ⟨u1, u2, rfl, own2, hb2⟩; obtain ⟨r1, d1, rfl⟩ := own2.c.shape; obtain ⟨r2, d2, rfl⟩ := own2.r.shape)
  have hG : Hid _ := heap_alloc_new w2 (.cells #[.slice r1 t.cs.length d1, .slice r2 t.rs.length d2] 26)
  have k3 : Below A.heap.size A (w2.alloc (.cells #[.slice r1 t.cs.length d1, .slice r2 t.rs.length d2] 26)) := keepB hb2 (Nat.le_refl _) (all_alloc _ _)
  have own3 : Hid (OwnT (w2.alloc (.cells #[.slice r1 t.cs.length d1, .slice r2 t.rs.length d2] 26)) (w.heap.size + 1 + 1 + 1) (.slice r1 t.cs.length d1) (.slice r2 t.rs.length d2) t) := (OwnT.leT own2 (by omega)).below (all_alloc _ _)
  have hGO : w.heap.size + 1 + 1 < w2.heap.size := by have := hb2.size; omega
  have hGOn : ∀ k, ((Value.slice r1 t.cs.length d1).ownBlock = some k ∨ (Value.slice r2 t.rs.length d2).ownBlock = some k) → k < w2.heap.size := fun k hk => hk.elim (fun h => (OwnI.lt own2.c k h).2) (fun h => (OwnI.lt own2.r k h).2)
  generalize w2.alloc (.cells #[.slice r1 t.cs.length d1, .slice r2 t.rs.length d2] 26) = W3 at hG k3 own3 ⊢
  generalize w2.heap.size = GO at hG hGO hGOn ⊢
  clear own2 hb2 hX x0 x1 HCP
  have hQ3 : Hid _ := blk hQ.out k3
  have a0 := cellW hQ3.out 0 _ rfl W3 (Below.refl _ _)
  have hc := Hc W3
  go_upto_region 3 with fail
  have k4 : Below W3.heap.size W3 (W3.alloc (.cells #[.int .u8 c] 5)) := all_alloc _ _
  generalize W3.alloc (.cells #[.int .u8 c] 5) = Z at k4 ⊢
  have hGZ : Hid _ := blk hG.out k4
  have hQZ : Hid _ := blk hQ3.out k4
  have hYZ : Hid _ := blk (blk hY.out k3) k4
  have ownZ : Hid (OwnT Z (w.heap.size + 1 + 1 + 1) (.slice r1 t.cs.length d1) (.slice r2 t.rs.length d2) t) := own3.out.below k4
  have hBZ : Below w.heap.size w Z := keepB (keepB hA0 (Nat.le_refl _) k3) (Nat.le_refl _) k4
  clear hc Hc a0 hG hQ3 hY own3 k3 k4 hQ hA0 e3
  obtain ⟨gr, cr, hrow, hcr⟩ : ∃ gr cr, Value.slice r1 t.cs.length d1 = .slice (some ⟨gr, 0, none⟩) t.cs.length cr ∧ t.cs.length ≤ cr := by
    obtain ⟨_, ⟨_, h0⟩ | ⟨g, cap, cur, e, _, _, hc, _⟩⟩ := ownZ.out.c
    · omega
    · exact ⟨g, cap, e, hc⟩
  cases hrow
  have hgr1 : gr < GO := hGOn gr (.inl rfl)
  have hgr0 : w.heap.size + 1 + 1 + 1 ≤ gr := (OwnI.lt ownZ.out.c gr rfl).1
  have LP0 : Hid (LpS w GO (.cells #[.slice (some ⟨gr, 0, none⟩) t.cs.length d1, .slice r2 t.rs.length d2] 26 (0, 0)) (.cells #[.int .i64 c, .int .i64 (a : Int), .int .i64 (vs.length : Int), .slice (some ⟨gv, 0, none⟩) vs.length cv] 43 (0, 0)) (.cells #[.slice none 0 0, .slice none 0 0] 26 (0, 0)) (.slice (some ⟨gr, 0, none⟩) t.cs.length d1) (.slice r2 t.rs.length d2) ⟨putL t.cs a [], t.rs⟩ Z) := ⟨hBZ, hGZ.out, hQZ.out, hYZ.out, by rw [putL_nil]; exact ownZ.out⟩
  have b0 := cellW hQZ.out 0 _ rfl Z (Below.refl _ _)
  go_upto_region 8 with fail
  clear b0 ce1 ce3 ownZ hBZ hGZ hQZ hYZ
  go_wp2
  go_loopw [10] (fun i wr => ∃ k : Nat, k ≤ vs.length ∧ i = .int .i64 k ∧ Hid (LpS w GO (.cells #[.slice (some ⟨gr, 0, none⟩) t.cs.length d1, .slice r2 t.rs.length d2] 26 (0, 0)) (.cells #[.int .i64 c, .int .i64 (a : Int), .int .i64 (vs.length : Int), .slice (some ⟨gv, 0, none⟩) vs.length cv] 43 (0, 0)) (.cells #[.slice none 0 0, .slice none 0 0] 26 (0, 0)) (.slice (some ⟨gr, 0, none⟩) t.cs.length d1) (.slice r2 t.rs.length d2) ⟨putL t.cs a (vs.take k), t.rs⟩ wr)) (fun i _ => vs.length - (intOf i).toNat)
  case atStart => exact ⟨0, Nat.zero_le _, rfl, LP0.out⟩
  case round =>
    obtain ⟨k, hk, rfl, HL⟩ := hrel
    have a0 := cellW HL.out.ask 0 _ rfl wr (Below.refl _ _)
    have a1 := cellW HL.out.ask 1 _ rfl wr (Below.refl _ _)
    have a2 := cellW HL.out.ask 2 _ rfl wr (Below.refl _ _)
    have a3 := cellW HL.out.ask 3 _ rfl wr (Below.refl _ _)
    have o0 := cellW HL.out.out 0 _ rfl wr (Below.refl _ _)
    have o1 := cellW HL.out.out 1 _ rfl wr (Below.refl _ _)
    by_cases hlt : k < vs.length
    · have hpl : (putL t.cs a (vs.take k)).length = t.cs.length := putL_length _ _ _ (by rw [List.length_take]; omega)
      have hak : a + k < (putL t.cs a (vs.take k)).length := by rw [hpl]; omega
      have hOr : OwnI wr (w.heap.size + 1 + 1 + 1) (.slice (some ⟨gr, 0, none⟩) t.cs.length d1) (putL t.cs a (vs.take k)) := HL.out.own.c
      obtain ⟨g', hpg, _, hgl, hq, hf⟩ := hOr.cell (a + k) hak
      cases hpg
      obtain ⟨gv', hpv, _, hgvl, hqv, _⟩ := (OwnI.below HV.out HL.out.bel).cell k hlt
      cases hpv
      have hwk : IntKind.i64.wrap ((a : Int) + (k : Int)) = (a : Int) + (k : Int) := by have := wrap64_small (a + k) (by omega); simpa using this
      have htn : ((a : Int) + (k : Int)).toNat = a + k := by omega
      have hge : ¬ (a : Int) + (k : Int) < 0 := by omega
      have hge' : (0 : Int) ≤ (a : Int) + (k : Int) := by omega
      have hltI : (a : Int) + (k : Int) < (t.cs.length : Int) := by omega
      have hST : Hid _ := putL_step t.cs a vs k hlt hle
      have hset : Hid _ := fun x => hOr.set (a + k) hak x
      generalize (putL t.cs a (vs.take k))[a + k] = old at hq
      generalize hzk : vs[k] = z at hqv hST
      clear hOr
      have hNX : Hid (LpS w GO (.cells #[.slice (some ⟨gr, 0, none⟩) t.cs.length d1, .slice r2 t.rs.length d2] 26 (0, 0)) (.cells #[.int .i64 c, .int .i64 (a : Int), .int .i64 (vs.length : Int), .slice (some ⟨gv, 0, none⟩) vs.length cv] 43 (0, 0)) (.cells #[.slice none 0 0, .slice none 0 0] 26 (0, 0)) (.slice (some ⟨gr, 0, none⟩) t.cs.length d1) (.slice r2 t.rs.length d2) ⟨putL t.cs a (vs.take (k + 1)), t.rs⟩ (wr.setCell ⟨gr, a + k, none⟩ (.int .i64 z))) := by
        refine ⟨HL.out.bel.setCell (show w.heap.size ≤ gr by omega) _, blk_far HL.out.out (show GO ≠ gr by omega) _, blk_far HL.out.ask (show w.heap.size + 1 ≠ gr by omega) _, blk_far HL.out.res (show w.heap.size + 1 + 1 ≠ gr by omega) _, ?_⟩
        have hs := hset.out z
        rw [hST.out] at hs
        exact ⟨hs, OwnI.grownT (u := .slice (some ⟨gr, 0, none⟩) 0 0) HL.out.own.r (grown_setI (grown_reflI _ _) _ _) (fun a b ha hb => by cases ha; exact HL.out.own.ne gr b rfl hb), HL.out.own.ne⟩
      clear hset hST hzk
      have hlt' : a + k < t.cs.length := by omega
      go_wp2_with (go_at_call 47; refine (HCO.out _).mono ?_; rintro e w1 ⟨rfl, rfl⟩)
      go_region
      go_wp2
      go_roundw
      case rel => exact ⟨k + 1, by omega, by go_num, ⟨hNX.out.bel.drew, hNX.out.out, hNX.out.ask, hNX.out.res, hNX.out.own.below (Below.drew (Below.refl _ _))⟩⟩
      case measure => simp [intOf]; omega
    · obtain rfl : k = vs.length := by omega
      have LF : Hid (LpS w GO (.cells #[.slice (some ⟨gr, 0, none⟩) t.cs.length d1, .slice r2 t.rs.length d2] 26 (0, 0)) (.cells #[.int .i64 c, .int .i64 (a : Int), .int .i64 (vs.length : Int), .slice (some ⟨gv, 0, none⟩) vs.length cv] 43 (0, 0)) (.cells #[.slice none 0 0, .slice none 0 0] 26 (0, 0)) (.slice (some ⟨gr, 0, none⟩) t.cs.length d1) (.slice r2 t.rs.length d2) ⟨putL t.cs a vs, t.rs⟩ wr) := by have := HL.out; rw [List.take_length] at this; exact this
      have y0 := cellW LF.out.res 0 _ rfl wr (Below.refl _ _)
      have y1 := cellW LF.out.res 1 _ rfl wr (Below.refl _ _)
      have f0 := frozenW LF.out.res 0 wr (Below.refl _ _)
      have f1 := frozenW LF.out.res 1 wr (Below.refl _ _)
      go_wp2
      go_region
      all_goals
        go_wp2
        exact bodyPost_ret (v := .tuple #[.agg #[(.slice (some ⟨gr, 0, none⟩) t.cs.length d1), (.slice r2 t.rs.length d2)], .string R]) (by simp [results, Tryd.results35, go_sem, y0, y1]) rfl ⟨_, _, rfl, OwnT.leT (OwnT.below (w' := World.drew _) (OwnT.farT (OwnT.farT LF.out.own (by simp only; omega) _) (by simp only; omega) _) (Below.drew (Below.refl _ _))) (by omega), Below.drew ((LF.out.bel.setCell (by simp only; omega) _).setCell (by simp only; omega) _)⟩
set_option maxRecDepth 100000 in
set_option maxHeartbeats 3200000 in
theorem l05Serve_reg (t : Tb) (c : Int) (a : Nat) (m : Int) (vs : List Int) (pv : Option Addr) (cv b2 : Nat) (s : ByteArray) (B : Nat) (v1 v2 : Value) (w : World) (hc5 : 5 ≤ c ∧ c ≤ 16) (hcb : coilB c = false) (ha : a ≤ 65535) (hm : (vs.length : Int) = m) (hv1 : 1 ≤ vs.length ∧ vs.length ≤ 16) (hle : a + vs.length ≤ t.rs.length) (hn1 : t.cs.length ≤ 24) (hn2 : t.rs.length ≤ 12) (h5 : 5 ≤ s.size) (h8 : s.size ≤ 8000) (h : OwnT w B v1 v2 t) (hsrc : OwnI w b2 (.slice pv vs.length cv) vs) :
    Calls Tryd.prog 35 #[.agg #[v1, v2], .agg #[.int .i64 c, .int .i64 (a : Int), .int .i64 m, .slice pv vs.length cv], .string s] w fun e w' => ∃ u1 u2, e = .returned (.tuple #[.agg #[u1, u2], .string (s.extract 0 5)]) ∧ OwnT w' w.heap.size u1 u2 ⟨t.cs, putL t.rs a vs⟩ ∧ Below w.heap.size w w' := by
  obtain ⟨p1, c1, rfl⟩ := h.c.shape
  obtain ⟨p2, c2, rfl⟩ := h.r.shape
  have HO : Hid (OwnT _ _ _ _ _) := h
  have HV : Hid (OwnI _ _ _ vs) := hsrc
  clear h hsrc
  subst hm
  obtain ⟨gv, hpv, _⟩ := HV.out.cell 0 (by omega)
  subst hpv
  have Hc : ∀ W : World, (convert 60 9 (.slice (some ⟨W.heap.size, 0, none⟩) 1 1)).run Tryd.prog (W.alloc (.cells #[.int .u8 c] 5)) = .ok (.string (oneB c)) (W.alloc (.cells #[.int .u8 c] 5)) := fun W => conv_one W c (by omega)
  have ew : IntKind.u8.wrap c = c := by
    have : c = 5 ∨ c = 6 ∨ c = 7 ∨ c = 8 ∨ c = 9 ∨ c = 10 ∨ c = 11 ∨ c = 12 ∨ c = 13 ∨ c = 14 ∨ c = 15 ∨ c = 16 := by omega
    rcases this with rfl | rfl | rfl | rfl | rfl | rfl | rfl | rfl | rfl | rfl | rfl | rfl <;> decide
  have ce1 : (c == 1) = false := by simp; omega
  have ce3 : (c == 3) = false := by simp; omega
  have HCO : Hid (∀ W, Calls Tryd.prog 47 #[.int .i64 c] W fun e w' => e = .returned (.bool false) ∧ W = w') := fun W => by have := l05OfCoils_any c W; rwa [hcb] at this
  have hsl : ∀ W : World, (Instr.slice 9 (.string s) none (some (.int .i64 5)) none).run Tryd.prog W = .ok (.string (s.extract 0 5)) W := fun W => by rw [run_slice_string_to_if W 9 s .i64 5 Tryd.underlying9, if_pos (by omega)]; rfl
  generalize s.extract 0 5 = R at hsl ⊢
  generalize oneB c = t1 at Hc
  clear hcb
  have HCP : Hid (∀ W, Below w.heap.size w W → Calls Tryd.prog 34 #[.agg #[.slice p1 t.cs.length c1, .slice p2 t.rs.length c2]] W fun e w' => ∃ u1 u2, e = .returned (.agg #[u1, u2]) ∧ OwnT w' W.heap.size u1 u2 t ∧ Below W.heap.size W w') := fun W hW => l05Copy_any t B _ _ W (by omega) (by omega) (HO.out.below hW)
  have hX : Hid _ := blk (blk (heap_alloc_new w (.cells #[.slice p1 t.cs.length c1, .slice p2 t.rs.length c2] 26)) (all_alloc _ (.cells #[.int .i64 c, .int .i64 (a : Int), .int .i64 (vs.length : Int), .slice (some ⟨gv, 0, none⟩) vs.length cv] 43))) (all_alloc _ (.cells #[.slice none 0 0, .slice none 0 0] 26))
  have hQ : Hid _ := blk (heap_alloc_new (w.alloc (.cells #[.slice p1 t.cs.length c1, .slice p2 t.rs.length c2] 26)) (.cells #[.int .i64 c, .int .i64 (a : Int), .int .i64 (vs.length : Int), .slice (some ⟨gv, 0, none⟩) vs.length cv] 43)) (all_alloc _ (.cells #[.slice none 0 0, .slice none 0 0] 26))
  have hY : Hid _ := heap_alloc_new ((w.alloc (.cells #[.slice p1 t.cs.length c1, .slice p2 t.rs.length c2] 26)).alloc (.cells #[.int .i64 c, .int .i64 (a : Int), .int .i64 (vs.length : Int), .slice (some ⟨gv, 0, none⟩) vs.length cv] 43)) (.cells #[.slice none 0 0, .slice none 0 0] 26)
  have hA0 : Below w.heap.size w (((w.alloc (.cells #[.slice p1 t.cs.length c1, .slice p2 t.rs.length c2] 26)).alloc (.cells #[.int .i64 c, .int .i64 (a : Int), .int .i64 (vs.length : Int), .slice (some ⟨gv, 0, none⟩) vs.length cv] 43)).alloc (.cells #[.slice none 0 0, .slice none 0 0] 26)) := keepB (keepB (all_alloc w _) (Nat.le_refl _) (all_alloc _ _)) (Nat.le_refl _) (all_alloc _ _)
  have e1 : (w.alloc (.cells #[.slice p1 t.cs.length c1, .slice p2 t.rs.length c2] 26)).heap.size = w.heap.size + 1 := by simp
  have e2 : ((w.alloc (.cells #[.slice p1 t.cs.length c1, .slice p2 t.rs.length c2] 26)).alloc (.cells #[.int .i64 c, .int .i64 (a : Int), .int .i64 (vs.length : Int), .slice (some ⟨gv, 0, none⟩) vs.length cv] 43)).heap.size = w.heap.size + 1 + 1 := by simp
  have e3 : (((w.alloc (.cells #[.slice p1 t.cs.length c1, .slice p2 t.rs.length c2] 26)).alloc (.cells #[.int .i64 c, .int .i64 (a : Int), .int .i64 (vs.length : Int), .slice (some ⟨gv, 0, none⟩) vs.length cv] 43)).alloc (.cells #[.slice none 0 0, .slice none 0 0] 26)).heap.size = w.heap.size + 1 + 1 + 1 := by simp
  rw [e1] at hQ
  rw [e2] at hY
  go_enter Tryd.func35, Tryd.ntmps35
  go_upto_region 1 with fail
  generalize ((w.alloc (.cells #[.slice p1 t.cs.length c1, .slice p2 t.rs.length c2] 26)).alloc (.cells #[.int .i64 c, .int .i64 (a : Int), .int .i64 (vs.length : Int), .slice (some ⟨gv, 0, none⟩) vs.length cv] 43)).alloc (.cells #[.slice none 0 0, .slice none 0 0] 26) = A at hX hQ hY hA0 e3 ⊢
  clear e1 e2
  have x0 := cellW hX.out 0 _ rfl A (Below.refl _ _)
  have x1 := cellW hX.out 1 _ rfl A (Below.refl _ _)
  go_upto_region 2 with (go_at_call 34; refine (HCP.out _ hA0).mono ?_; rintro e w2 ⟨u1, u2, rfl, own2, hb2⟩; obtain ⟨r1, d1, rfl⟩ := own2.c.shape; obtain ⟨r2, d2, rfl⟩ := own2.r.shape)
  have hG : Hid _ := heap_alloc_new w2 (.cells #[.slice r1 t.cs.length d1, .slice r2 t.rs.length d2] 26)
  have k3 : Below A.heap.size A (w2.alloc (.cells #[.slice r1 t.cs.length d1, .slice r2 t.rs.length d2] 26)) := keepB hb2 (Nat.le_refl _) (all_alloc _ _)
  have own3 : Hid (OwnT (w2.alloc (.cells #[.slice r1 t.cs.length d1, .slice r2 t.rs.length d2] 26)) (w.heap.size + 1 + 1 + 1) (.slice r1 t.cs.length d1) (.slice r2 t.rs.length d2) t) := (OwnT.leT own2 (by omega)).below (all_alloc _ _)
  have hGO : w.heap.size + 1 + 1 < w2.heap.size := by have := hb2.size; omega
  have hGOn : ∀ k, ((Value.slice r1 t.cs.length d1).ownBlock = some k ∨ (Value.slice r2 t.rs.length d2).ownBlock = some k) → k < w2.heap.size := fun k hk => hk.elim (fun h => (OwnI.lt own2.c k h).2) (fun h => (OwnI.lt own2.r k h).2)
  generalize w2.alloc (.cells #[.slice r1 t.cs.length d1, .slice r2 t.rs.length d2] 26) = W3 at hG k3 own3 ⊢
  generalize w2.heap.size = GO at hG hGO hGOn ⊢
  clear own2 hb2 hX x0 x1 HCP
  have hQ3 : Hid _ := blk hQ.out k3
  have a0 := cellW hQ3.out 0 _ rfl W3 (Below.refl _ _)
  have hc := Hc W3
  go_upto_region 3 with fail
  have k4 : Below W3.heap.size W3 (W3.alloc (.cells #[.int .u8 c] 5)) := all_alloc _ _
  generalize W3.alloc (.cells #[.int .u8 c] 5) = Z at k4 ⊢
  have hGZ : Hid _ := blk hG.out k4
  have hQZ : Hid _ := blk hQ3.out k4
  have hYZ : Hid _ := blk (blk hY.out k3) k4
  have ownZ : Hid (OwnT Z (w.heap.size + 1 + 1 + 1) (.slice r1 t.cs.length d1) (.slice r2 t.rs.length d2) t) := own3.out.below k4
  have hBZ : Below w.heap.size w Z := keepB (keepB hA0 (Nat.le_refl _) k3) (Nat.le_refl _) k4
  clear hc Hc a0 hG hQ3 hY own3 k3 k4 hQ hA0 e3
  obtain ⟨gr, cr, hrow, hcr⟩ : ∃ gr cr, Value.slice r2 t.rs.length d2 = .slice (some ⟨gr, 0, none⟩) t.rs.length cr ∧ t.rs.length ≤ cr := by
    obtain ⟨_, ⟨_, h0⟩ | ⟨g, cap, cur, e, _, _, hc, _⟩⟩ := ownZ.out.r
    · omega
    · exact ⟨g, cap, e, hc⟩
  cases hrow
  have hgr1 : gr < GO := hGOn gr (.inr rfl)
  have hgr0 : w.heap.size + 1 + 1 + 1 ≤ gr := (OwnI.lt ownZ.out.r gr rfl).1
  have LP0 : Hid (LpS w GO (.cells #[.slice r1 t.cs.length d1, .slice (some ⟨gr, 0, none⟩) t.rs.length d2] 26 (0, 0)) (.cells #[.int .i64 c, .int .i64 (a : Int), .int .i64 (vs.length : Int), .slice (some ⟨gv, 0, none⟩) vs.length cv] 43 (0, 0)) (.cells #[.slice none 0 0, .slice none 0 0] 26 (0, 0)) (.slice r1 t.cs.length d1) (.slice (some ⟨gr, 0, none⟩) t.rs.length d2) ⟨t.cs, putL t.rs a []⟩ Z) := ⟨hBZ, hGZ.out, hQZ.out, hYZ.out, by rw [putL_nil]; exact ownZ.out⟩
  have b0 := cellW hQZ.out 0 _ rfl Z (Below.refl _ _)
  go_upto_region 8 with fail
  clear b0 ce1 ce3 ownZ hBZ hGZ hQZ hYZ
  go_wp2
  go_loopw [10] (fun i wr => ∃ k : Nat, k ≤ vs.length ∧ i = .int .i64 k ∧ Hid (LpS w GO (.cells #[.slice r1 t.cs.length d1, .slice (some ⟨gr, 0, none⟩) t.rs.length d2] 26 (0, 0)) (.cells #[.int .i64 c, .int .i64 (a : Int), .int .i64 (vs.length : Int), .slice (some ⟨gv, 0, none⟩) vs.length cv] 43 (0, 0)) (.cells #[.slice none 0 0, .slice none 0 0] 26 (0, 0)) (.slice r1 t.cs.length d1) (.slice (some ⟨gr, 0, none⟩) t.rs.length d2) ⟨t.cs, putL t.rs a (vs.take k)⟩ wr)) (fun i _ => vs.length - (intOf i).toNat)
  case atStart => exact ⟨0, Nat.zero_le _, rfl, LP0.out⟩
  case round =>
    obtain ⟨k, hk, rfl, HL⟩ := hrel
    have a0 := cellW HL.out.ask 0 _ rfl wr (Below.refl _ _)
    have a1 := cellW HL.out.ask 1 _ rfl wr (Below.refl _ _)
    have a2 := cellW HL.out.ask 2 _ rfl wr (Below.refl _ _)
    have a3 := cellW HL.out.ask 3 _ rfl wr (Below.refl _ _)
    have o0 := cellW HL.out.out 0 _ rfl wr (Below.refl _ _)
    have o1 := cellW HL.out.out 1 _ rfl wr (Below.refl _ _)
    by_cases hlt : k < vs.length
    · have hpl : (putL t.rs a (vs.take k)).length = t.rs.length := putL_length _ _ _ (by rw [List.length_take]; omega)
      have hak : a + k < (putL t.rs a (vs.take k)).length := by rw [hpl]; omega
      have hOr : OwnI wr (w.heap.size + 1 + 1 + 1) (.slice (some ⟨gr, 0, none⟩) t.rs.length d2) (putL t.rs a (vs.take k)) := HL.out.own.r
      obtain ⟨g', hpg, _, hgl, hq, hf⟩ := hOr.cell (a + k) hak
      cases hpg
      obtain ⟨gv', hpv, _, hgvl, hqv, _⟩ := (OwnI.below HV.out HL.out.bel).cell k hlt
      cases hpv
      have hwk : IntKind.i64.wrap ((a : Int) + (k : Int)) = (a : Int) + (k : Int) := by have := wrap64_small (a + k) (by omega); simpa using this
      have htn : ((a : Int) + (k : Int)).toNat = a + k := by omega
      have hge : ¬ (a : Int) + (k : Int) < 0 := by omega
      have hge' : (0 : Int) ≤ (a : Int) + (k : Int) := by omega
      have hltI : (a : Int) + (k : Int) < (t.rs.length : Int) := by omega
      have hST : Hid _ := putL_step t.rs a vs k hlt hle
      have hset : Hid _ := fun x => hOr.set (a + k) hak x
      generalize (putL t.rs a (vs.take k))[a + k] = old at hq
      generalize hzk : vs[k] = z at hqv hST
      clear hOr
      have hNX : Hid (LpS w GO (.cells #[.slice r1 t.cs.length d1, .slice (some ⟨gr, 0, none⟩) t.rs.length d2] 26 (0, 0)) (.cells #[.int .i64 c, .int .i64 (a : Int), .int .i64 (vs.length : Int), .slice (some ⟨gv, 0, none⟩) vs.length cv] 43 (0, 0)) (.cells #[.slice none 0 0, .slice none 0 0] 26 (0, 0)) (.slice r1 t.cs.length d1) (.slice (some ⟨gr, 0, none⟩) t.rs.length d2) ⟨t.cs, putL t.rs a (vs.take (k + 1))⟩ (wr.setCell ⟨gr, a + k, none⟩ (.int .i64 z))) := by
        refine ⟨HL.out.bel.setCell (show w.heap.size ≤ gr by omega) _, blk_far HL.out.out (show GO ≠ gr by omega) _, blk_far HL.out.ask (show w.heap.size + 1 ≠ gr by omega) _, blk_far HL.out.res (show w.heap.size + 1 + 1 ≠ gr by omega) _, ?_⟩
        have hs := hset.out z
        rw [hST.out] at hs
        exact ⟨OwnI.grownT (u := .slice (some ⟨gr, 0, none⟩) 0 0) HL.out.own.c (grown_setI (grown_reflI _ _) _ _) (fun a b ha hb => by cases ha; exact fun e => HL.out.own.ne b gr hb rfl e.symm), hs, HL.out.own.ne⟩
      clear hset hST hzk
      have hlt' : a + k < t.rs.length := by omega
      go_wp2_with (go_at_call 47; refine (HCO.out _).mono ?_; rintro e w1 ⟨rfl, rfl⟩)
      go_region
      go_wp2
      go_roundw
      case rel => exact ⟨k + 1, by omega, by go_num, ⟨hNX.out.bel.drew, hNX.out.out, hNX.out.ask, hNX.out.res, hNX.out.own.below (Below.drew (Below.refl _ _))⟩⟩
      case measure => simp [intOf]; omega
    · obtain rfl : k = vs.length := by omega
      have LF : Hid (LpS w GO (.cells #[.slice r1 t.cs.length d1, .slice (some ⟨gr, 0, none⟩) t.rs.length d2] 26 (0, 0)) (.cells #[.int .i64 c, .int .i64 (a : Int), .int .i64 (vs.length : Int), .slice (some ⟨gv, 0, none⟩) vs.length cv] 43 (0, 0)) (.cells #[.slice none 0 0, .slice none 0 0] 26 (0, 0)) (.slice r1 t.cs.length d1) (.slice (some ⟨gr, 0, none⟩) t.rs.length d2) ⟨t.cs, putL t.rs a vs⟩ wr) := by have := HL.out; rw [List.take_length] at this; exact this
      have y0 := cellW LF.out.res 0 _ rfl wr (Below.refl _ _)
      have y1 := cellW LF.out.res 1 _ rfl wr (Below.refl _ _)
      have f0 := frozenW LF.out.res 0 wr (Below.refl _ _)
      have f1 := frozenW LF.out.res 1 wr (Below.refl _ _)
      go_wp2
      go_region
      all_goals
        go_wp2
        exact bodyPost_ret (v := .tuple #[.agg #[(.slice r1 t.cs.length d1), (.slice (some ⟨gr, 0, none⟩) t.rs.length d2)], .string R]) (by simp [results, Tryd.results35, go_sem, y0, y1]) rfl ⟨_, _, rfl, OwnT.leT (OwnT.below (w' := World.drew _) (OwnT.farT (OwnT.farT LF.out.own (by simp only; omega) _) (by simp only; omega) _) (Below.drew (Below.refl _ _))) (by omega), Below.drew ((LF.out.bel.setCell (by simp only; omega) _).setCell (by simp only; omega) _)⟩
end Go.Proofs.YtfpibedloodjlabDoor
