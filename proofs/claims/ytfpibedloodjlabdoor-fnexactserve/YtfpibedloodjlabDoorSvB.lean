/- COPIES OF LISTS AND TABLES: the program's; the cells that a code is about; an exception's bytes. -/
import Derived.Test.YtfpibedloodjlabDoorPlainAsk
import Derived.Test.YtfpibedloodjlabDoorPlainTab
import Derived.Test.YtfpibedloodjlabDoorSvIs
import Derived.Test.YtfpibedloodjlabDoorRowO
import Derived.Deep.RegionWith
import Derived.Deep.RegionLaw
import Derived.Deep.QuietTactic
import Derived.BigQuiet
import Derived.BigRegion
namespace Go.Proofs.YtfpibedloodjlabDoor
open Go.RowKit
set_option linter.unusedVariables false
set_option linter.unusedSimpArgs false

theorem ownI_src {w : World} {b : Nat} {p : Addr} {n c : Nat} {zs : List Int} (h : OwnI w b (.slice (some p) n c) zs) : ∀ j u, (zs.map (Value.int .i64))[j]? = some u → w.cell? (p.add j) = some u := by
  intro j u hj
  rw [List.getElem?_map] at hj
  cases hz : zs[j]? with
  | none => rw [hz] at hj; cases hj
  | some z =>
    rw [hz] at hj
    cases hj
    obtain ⟨hlt, hzj⟩ := List.getElem?_eq_some_iff.1 hz
    obtain ⟨g, e, _, _, hq, _⟩ := h.cell j hlt
    cases e
    rw [hzj] at hq
    rw [show (⟨g, 0, none⟩ : Addr).add j = ⟨g, j, none⟩ by unfold Addr.add; split <;> simp_all]
    exact hq
theorem own_new {w : World} {base : Nat} (zs : List Int) (c : Nat) (k : Nat) (hb : base ≤ w.heap.size) (hc : zs.length ≤ c) (hm : c ≤ maxLen) (hk : c = zs.length + k) : OwnI (w.drew.alloc (.cells ((zs.map (Value.int .i64)).toArray ++ Builtin.zeroCells (Value.int .i64 0).cells k) 2)) base (.slice (some ⟨w.heap.size, 0, none⟩) zs.length c) zs := by
  refine ⟨by simp, .inr ⟨w.heap.size, c, _, rfl, hb, heap_alloc_new w.drew _, hc, hm, ?_, ?_⟩⟩
  · simp [size_zeroCells, Value.cells]; omega
  · simp only [Array.toList_append, Nat.mul_one]
    rw [show zs.length = ((zs.map (Value.int .i64)).toArray.toList).length by simp]
    exact List.take_left
/-- numbers put behind nothing: a copy -/
theorem app_nil (w : World) (ty : TypeId) (b : Nat) (u : Value) (zs : List Int) (hs : OwnI w b u zs) (hl : zs.length ≤ 100000) :
    ∃ v' w', (Builtin.append_ #[22, 22] ty #[.slice none 0 0, u]).run Tryd.prog w = .ok v' w' ∧ OwnI w' w.heap.size v' zs ∧ Below w.heap.size w w' := by
  obtain ⟨i0, hi, hz0, hz1, hz2⟩ := info_parts info64
  rcases hs.2 with ⟨rfl, h0⟩ | ⟨g, cap, cur, rfl, _⟩
  · obtain rfl : zs = [] := List.eq_nil_of_length_eq_zero h0
    exact ⟨_, _, run_append_owned_none w w.heap.size _ _ 2 i0 1 Tryd.underlying22 hi _ 0 [] (World.ownsRow_nil _ _ _ _), OwnI.nil _ _, Below.refl _ _⟩
  · by_cases h0 : zs.length = 0
    · obtain rfl : zs = [] := List.eq_nil_of_length_eq_zero h0
      refine ⟨.slice none 0 0, w, ?_, OwnI.nil _ _, Below.refl _ _⟩
      simp [Builtin.append_, run_underlying Tryd.underlying22, sizeOf, typeInfo, hi, Builtin.lenOf, Builtin.firstCells, loadCells, loadCellsFrom]
    · have hr := run_append_nil (P := Tryd.prog) w 22 ty 2 i0 (.int .i64 0) Tryd.underlying22 hi hz0 ⟨g, 0, none⟩ zs.length cap (zs.map (Value.int .i64)) (by rw [hz1]; simp) (ownI_src hs) (by omega) (by omega) (by rw [hz2]; omega)
      have hge := grownCap_ge w zs.length 0 2
      have hle := grownCap_le_maxLen w zs.length 0 2 (by unfold maxLen; omega)
      refine ⟨_, _, hr, own_new zs _ _ (Nat.le_refl _) hge hle (by omega), ?_⟩
      exact (Below.refl w.heap.size w).trans (Below.alloc (Below.drew (Below.refl _ _)) (Nat.le_refl _) _)
/-- numbers put behind an empty row: a copy -/
theorem app_empty (w : World) (ty : TypeId) (G : Nat) (hG : w.heap[G]? = some (.cells #[] 2 (0, 0))) (b : Nat) (u : Value) (zs : List Int) (hs : OwnI w b u zs) (hl : zs.length ≤ 100000) :
    ∃ G' c w', (Builtin.append_ #[22, 22] ty #[.slice (some ⟨G, 0, none⟩) 0 0, u]).run Tryd.prog w = .ok (.slice (some ⟨G', 0, none⟩) zs.length c) w' ∧ (G' = G ∨ G' = w.heap.size) ∧ (∀ base, base ≤ G → OwnI w' base (.slice (some ⟨G', 0, none⟩) zs.length c) zs) ∧ Below w.heap.size w w' := by
  obtain ⟨i0, hi, hz0, hz1, hz2⟩ := info_parts info64
  have hlt := (Array.getElem?_eq_some_iff.1 hG).1
  have hown : ∀ base, base ≤ G → OwnI w base (.slice (some ⟨G, 0, none⟩) 0 0) [] := fun base h => ⟨by simp, .inr ⟨G, 0, #[], rfl, h, hG, Nat.le_refl _, by unfold maxLen; omega, rfl, rfl⟩⟩
  rcases hs.2 with ⟨rfl, h0⟩ | ⟨g, cap, cur, rfl, _⟩
  · obtain rfl : zs = [] := List.eq_nil_of_length_eq_zero h0
    exact ⟨_, _, _, run_append_owned_none w 0 _ _ 2 i0 1 Tryd.underlying22 hi _ 0 [] (hown 0 (Nat.zero_le _)), .inl rfl, hown, Below.refl _ _⟩
  · by_cases h0 : zs.length = 0
    · obtain rfl : zs = [] := List.eq_nil_of_length_eq_zero h0
      refine ⟨G, 0, w, ?_, .inl rfl, hown, Below.refl _ _⟩
      simp [Builtin.append_, run_underlying Tryd.underlying22, sizeOf, typeInfo, hi, Builtin.lenOf, Builtin.firstCells, loadCells, loadCellsFrom, storeCells]
    · have hr := run_append_grow (P := Tryd.prog) w 22 ty 2 i0 (.int .i64 0) Tryd.underlying22 hi hz0 ⟨G, 0, none⟩ 0 0 [] (by simp) (by simp) ⟨g, 0, none⟩ zs.length cap (zs.map (Value.int .i64)) (by rw [hz1]; simp) (ownI_src hs) (by omega) (by omega) (by rw [hz2, nextslicecap_zero (by omega)]; omega)
      have hge := grownCap_ge w (0 + zs.length) 0 2
      have hle := grownCap_le_maxLen w (0 + zs.length) 0 2 (by unfold maxLen; omega)
      simp only [Nat.zero_add, Array.empty_append] at hr hge hle
      refine ⟨_, _, _, hr, .inr rfl, fun base hb => own_new zs _ _ (by omega) hge hle (by omega), ?_⟩
      exact (Below.refl w.heap.size w).trans (Below.alloc (Below.drew (Below.refl _ _)) (Nat.le_refl _) _)
set_option maxRecDepth 100000 in
theorem copyNums_any (b : Nat) (v : Value) (zs : List Int) (w : World) (hl : zs.length ≤ 100000) (hs : OwnI w b v zs) :
    Calls Tryd.prog 38 #[v] w fun e w' => ∃ v', e = .returned v' ∧ OwnI w' w.heap.size v' zs ∧ Below w.heap.size w w' := by
  have H : Hid (∀ ty, ∃ v' w', (Builtin.append_ #[22, 22] ty #[.slice none 0 0, v]).run Tryd.prog w = .ok v' w' ∧ OwnI w' w.heap.size v' zs ∧ Below w.heap.size w w') := fun ty => app_nil w ty b v zs hs hl
  obtain ⟨p, c, rfl⟩ := hs.shape
  clear hs
  obtain ⟨v', w', hrun, hO, hB⟩ := H.out 22
  have hO' : Hid (OwnI _ _ _ _) := hO
  obtain ⟨p', c', rfl⟩ := hO.shape
  clear hO H
  go_enter Tryd.func38, Tryd.ntmps38
  go_wp2_with (at_builtin; refine wpList_plain rfl fun K hK => ?_; unfold Oper.wp; simp [execOp, resolve, invoke, builtin, Act.eval, hrun, Result.andThen]; refine hK _ _ ?_)
  go_ret
  exact ⟨_, rfl, hO'.out, hB⟩
theorem cellsFor_any (t : Tb) (c : Int) (v1 v2 : Value) (w : World) (h1 : ∃ p k, v1 = .slice p t.cs.length k) (h2 : ∃ p k, v2 = .slice p t.rs.length k) :
    Calls Tryd.prog 20 #[.agg #[v1, v2], .int .i64 c] w fun e w' => e = .returned (if coilB c then v1 else v2) ∧ Below w.heap.size w w' := by
  have HC : Hid (∀ W, Calls Tryd.prog 39 #[.int .i64 c] W fun e w' => e = .returned (.bool (coilB c)) ∧ W = w') := fun W => asksCoils_any c W
  obtain ⟨p1, k1, rfl⟩ := h1
  obtain ⟨p2, k2, rfl⟩ := h2
  generalize coilB c = B at HC ⊢
  cases B with
  | true =>
    go_enter Tryd.func20, Tryd.ntmps20
    go_wp2_with (go_at_call 39; refine (HC.out _).mono ?_; rintro e w1 ⟨rfl, rfl⟩)
    go_ret
    exact ⟨rfl, all_alloc _ _⟩
  | false =>
    go_enter Tryd.func20, Tryd.ntmps20
    go_wp2_with (go_at_call 39; refine (HC.out _).mono ?_; rintro e w1 ⟨rfl, rfl⟩)
    go_ret
    exact ⟨rfl, all_alloc _ _⟩
end Go.Proofs.YtfpibedloodjlabDoor
/- A TABLE COPIED by the program; an exception's bytes; the model's codes. -/
namespace Go.Proofs.YtfpibedloodjlabDoor
open Go.RowKit
set_option linter.unusedVariables false
set_option linter.unusedSimpArgs false

set_option maxRecDepth 100000 in
set_option maxHeartbeats 1600000 in
theorem copyTable_any (t : Tb) (B : Nat) (v1 v2 : Value) (w : World) (hl1 : t.cs.length ≤ 100000) (hl2 : t.rs.length ≤ 100000) (h : OwnT w B v1 v2 t) :
    Calls Tryd.prog 18 #[.agg #[v1, v2]] w fun e w' => ∃ u1 u2, e = .returned (.agg #[u1, u2]) ∧ OwnT w' w.heap.size u1 u2 t ∧ Below w.heap.size w w' := by
  have H1 : Hid (∀ W, Below w.heap.size w W → Calls Tryd.prog 38 #[v1] W fun e w' => ∃ v, e = .returned v ∧ OwnI w' W.heap.size v t.cs ∧ Below W.heap.size W w') := fun W hW => copyNums_any B v1 t.cs W hl1 (h.c.below hW)
  have H2 : Hid (∀ W, Below w.heap.size w W → Calls Tryd.prog 38 #[v2] W fun e w' => ∃ v, e = .returned v ∧ OwnI w' W.heap.size v t.rs ∧ Below W.heap.size W w') := fun W hW => copyNums_any B v2 t.rs W hl2 (h.r.below hW)
  obtain ⟨p1, c1, rfl⟩ := h.c.shape
  obtain ⟨p2, c2, rfl⟩ := h.r.shape
  clear h
  go_enter Tryd.func18, Tryd.ntmps18
  go_upto_region 1 with fail
  have hX : Hid _ := blk (heap_alloc_new w (.cells #[.slice p1 t.cs.length c1, .slice p2 t.rs.length c2] 26)) (all_alloc _ (.cells #[.slice none 0 0, .slice none 0 0] 26))
  have hY : Hid _ := heap_alloc_new (w.alloc (.cells #[.slice p1 t.cs.length c1, .slice p2 t.rs.length c2] 26)) (.cells #[.slice none 0 0, .slice none 0 0] 26)
  have hA0 : Below w.heap.size w ((w.alloc (.cells #[.slice p1 t.cs.length c1, .slice p2 t.rs.length c2] 26)).alloc (.cells #[.slice none 0 0, .slice none 0 0] 26)) := keepB (all_alloc w _) (Nat.le_refl _) (all_alloc _ _)
  have e1 : (w.alloc (.cells #[.slice p1 t.cs.length c1, .slice p2 t.rs.length c2] 26)).heap.size = w.heap.size + 1 := by simp
  have e3 : ((w.alloc (.cells #[.slice p1 t.cs.length c1, .slice p2 t.rs.length c2] 26)).alloc (.cells #[.slice none 0 0, .slice none 0 0] 26)).heap.size = w.heap.size + 1 + 1 := by simp
  rw [e1] at hY
  generalize (w.alloc (.cells #[.slice p1 t.cs.length c1, .slice p2 t.rs.length c2] 26)).alloc (.cells #[.slice none 0 0, .slice none 0 0] 26) = A at hX hY hA0 e3 ⊢
  clear e1
  have hAd : Below A.heap.size A A.drew := Below.drew (Below.refl _ _)
  have x0 := cellW hX.out 0 _ rfl A (Below.refl _ _)
  have x1 := cellW hX.out 1 _ rfl A (Below.refl _ _)
  go_region_with (first
    | (have _ := hD; go_at_call 38; refine (H2.out _ (keepB hA0 (Nat.le_refl _) k1)).mono ?_; rintro e w2 ⟨u2, rfl, o2, hb2⟩; obtain ⟨q2, d2, rfl⟩ := o2.shape; have hY2 : Hid _ := blk (blk hY.out k1) hb2; have y0 := cellW hY2.out 0 _ rfl w2 (Below.refl _ _); have y1 := cellW hY2.out 1 _ rfl w2 (Below.refl _ _); have f0 := frozenW hY2.out 0 w2 (Below.refl _ _); have f1 := frozenW hY2.out 1 w2 (Below.refl _ _))
    | (go_at_call 38; refine (H1.out _ (keepB hA0 (Nat.le_refl _) hAd)).mono ?_; rintro e w1 ⟨u1, rfl, o1, hb1⟩; obtain ⟨q1, d1, rfl⟩ := o1.shape; have hD : Hid True := trivial; have k1 : Below A.heap.size A w1 := keepB hAd (Nat.le_refl _) hb1; have x2 := cellW hX.out 1 _ rfl w1 k1))
  all_goals
    go_wp2
    have hs1 := k1.size
    have hT : OwnT w2 A.heap.size (.slice q1 t.cs.length d1) (.slice q2 t.rs.length d2) t := OwnT.mk2 (OwnI.below o1 hb2) o2 hs1 (fun k hk => (OwnI.lt o1 k hk).2)
    have hB2 : Below w.heap.size w w2 := keepB (keepB hA0 (Nat.le_refl _) k1) (Nat.le_refl _) hb2
    exact bodyPost_ret (v := .agg #[.slice q1 t.cs.length d1, .slice q2 t.rs.length d2]) (by simp [results, Tryd.results18, go_sem, y0, y1]) rfl ⟨_, _, rfl, OwnT.leT (OwnT.farT (OwnT.farT hT (by simp only; omega) _) (by simp only; omega) _) (by omega), (Below.setCell (Below.setCell hB2 (by simp only; omega) _) (by simp only; omega) _)⟩
theorem or128 : ∀ k : Fin 256, bits BinOp.or IntKind.u8 (k.val : Int) 128 = ((k.val % 128 + 128 : Nat) : Int) := by decide +kernel
theorem or128' (n : Nat) (h : n < 256) : bits BinOp.or IntKind.u8 (n : Int) 128 = ((n % 128 + 128 : Nat) : Int) := or128 ⟨n, h⟩
/-- the bytes of an exception -/
theorem conv_ex (w : World) (s : ByteArray) (n : Int) (hn : 0 ≤ n ∧ n ≤ 255) : (convert 60 9 (.slice (some ⟨w.heap.size, 0, none⟩) 2 2)).run Tryd.prog (w.alloc (.cells #[.int .u8 ((byteAt s 0 % 128 + 128 : Nat) : Int), .int .u8 n] 5)) = .ok (.string (exB s n)) (w.alloc (.cells #[.int .u8 ((byteAt s 0 % 128 + 128 : Nat) : Int), .int .u8 n] 5)) := by
  have := conv_new w [UInt8.ofNat (byteAt s 0 % 128 + 128), UInt8.ofNat n.toNat] (by simp)
  simp only [cellsC, List.map_cons, List.map_nil, u8_ofNat (show byteAt s 0 % 128 + 128 < 256 by omega), u8_ofNat (show n.toNat < 256 by omega)] at this
  rw [show ((n.toNat : Nat) : Int) = n by omega] at this
  exact this
set_option maxRecDepth 100000 in
theorem exceptionText_any (s : ByteArray) (n : Int) (hn : 0 ≤ n ∧ n ≤ 255) (v : Value) (w : World) (H : Calls Tryd.prog 42 #[v] w fun e w' => e = .returned (.int .u8 n) ∧ w = w') :
    Calls Tryd.prog 22 #[.int .u8 (byteAt s 0 : Int), v] w fun e w' => e = .returned (.string (exB s n)) ∧ Below w.heap.size w w' := by
  have HE : Hid (Calls Tryd.prog 42 #[v] w fun e w' => e = .returned (.int .u8 n) ∧ w = w') := H
  have ho := or128' (byteAt s 0) (by have := byteAt_range s 0; omega)
  have hc := conv_ex w s n hn
  have hr := byteAt_range s 0
  generalize exB s n = R at hc ⊢
  generalize ((byteAt s 0 % 128 + 128 : Nat) : Int) = K2 at ho hc
  generalize (byteAt s 0 : Int) = K at ho
  clear H
  go_enter Tryd.func22, Tryd.ntmps22
  go_wp2_with (go_at_call 42; refine HE.out.mono ?_; rintro e w1 ⟨rfl, rfl⟩)
  go_ret
  exact ⟨rfl, all_alloc _ _⟩
theorem l05OfCoils_any (c : Int) (w : World) :
    Calls Tryd.prog 47 #[.int .i64 c] w fun e w' => e = .returned (.bool (coilB c)) ∧ w = w' := by
  unfold coilB
  rcases code_cases c with rfl | rfl | rfl | rfl | rfl | rfl | h
  case inr.inr.inr.inr.inr.inr =>
    obtain ⟨e1, e3, e5, e6, e15, e16⟩ := code_no h
    go_enter Tryd.func47, Tryd.ntmps47
    go_wp2
    go_ret
    exact ⟨ret_bool (by simp; omega), rfl⟩
  all_goals
    go_enter Tryd.func47, Tryd.ntmps47
    go_wp2
    go_ret
    exact ⟨rfl, rfl⟩
theorem l05Known_any (c : Int) (w : World) :
    Calls Tryd.prog 46 #[.int .u8 c] w fun e w' => e = .returned (.bool (knownB c)) ∧ w = w' := by
  unfold knownB
  rcases code_cases c with rfl | rfl | rfl | rfl | rfl | rfl | h
  case inr.inr.inr.inr.inr.inr =>
    obtain ⟨e1, e3, e5, e6, e15, e16⟩ := code_no h
    go_enter Tryd.func46, Tryd.ntmps46
    go_wp2
    go_ret
    exact ⟨ret_bool (by simp; omega), rfl⟩
  all_goals
    go_enter Tryd.func46, Tryd.ntmps46
    go_wp2
    go_ret
    exact ⟨rfl, rfl⟩
end Go.Proofs.YtfpibedloodjlabDoor
