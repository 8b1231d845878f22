/- A QUESTION SERVED by the model: what looks. -/
import Derived.Test.YtfpibedloodjlabDoorSvH
import Derived.Test.YtfpibedloodjlabDoorWire
namespace Go.Proofs.YtfpibedloodjlabDoor
open Go.RowKit
set_option linter.unusedVariables false
set_option linter.unusedSimpArgs false

/-- what is kept while the model answers -/
def Sh (w : World) (GO : Nat) (o1 o2 : Obj) (W : World) : Prop := Below w.heap.size w W ∧ W.heap[GO]? = some o1 ∧ W.heap[w.heap.size + 1]? = some o2
set_option maxRecDepth 100000 in
set_option maxHeartbeats 3200000 in
theorem l05Serve_1 (t : Tb) (a m : Int) (vs : List Int) (pv : Option Addr) (cv : Nat) (s : ByteArray) (B : Nat) (v1 v2 : Value) (w : World) (ha : 0 ≤ a ∧ a ≤ 65535) (hm : 1 ≤ m ∧ m ≤ 64) (hle : a + m ≤ (t.cs.length : Int)) (hn1 : t.cs.length ≤ 24) (hn2 : t.rs.length ≤ 12) (h : OwnT w B v1 v2 t) :
    Calls Tryd.prog 35 #[.agg #[v1, v2], .agg #[.int .i64 1, .int .i64 a, .int .i64 m, .slice pv vs.length cv], .string s] w fun e w' => ∃ u1 u2, e = .returned (.tuple #[.agg #[u1, u2], .string (oneB 1 ++ (oneB ((packB ((t.cs.drop a.toNat).take m.toNat)).size : Int) ++ packB ((t.cs.drop a.toNat).take m.toNat)))]) ∧ OwnT w' w.heap.size u1 u2 t ∧ Below w.heap.size w w' := by
  obtain ⟨p1, c1, rfl⟩ := h.c.shape
  obtain ⟨p2, c2, rfl⟩ := h.r.shape
  have HO : Hid (OwnT _ _ _ _ _) := h
  clear h
  have Hc : ∀ W : World, (convert 60 9 (.slice (some ⟨W.heap.size, 0, none⟩) 1 1)).run Tryd.prog (W.alloc (.cells #[.int .u8 1] 5)) = .ok (.string (oneB 1)) (W.alloc (.cells #[.int .u8 1] 5)) := fun W => conv_one W 1 (by omega)
  have ew : IntKind.u8.wrap 1 = 1 := by decide
  have hwr : IntKind.i64.wrap (a + m) = a + m := by have := wrap64_small (a + m).toNat (by omega); rwa [Int.toNat_of_nonneg (by omega)] at this
  have hzl : ((t.cs.drop a.toNat).take m.toNat).length = m.toNat := by rw [List.length_take, List.length_drop]; omega
  have hsz : (packB ((t.cs.drop a.toNat).take m.toNat)).size ≤ 200 := by have h := packL_length ((t.cs.drop a.toNat).take m.toNat); have e : (packB ((t.cs.drop a.toNat).take m.toNat)).size = (((t.cs.drop a.toNat).take m.toNat).length + 7) / 8 := (by simpa [packB, ByteArray.size] using h); omega
  have HPK : Hid (∀ (W : World) (v : Value), RowO W v ((t.cs.drop a.toNat).take m.toNat) → Calls Tryd.prog 49 #[v] W fun e w' => e = .returned (.string (packB ((t.cs.drop a.toNat).take m.toNat))) ∧ Below W.heap.size W w') := fun W v h => l04Pack_o v _ W (by omega) h
  have HCN : Hid (∀ W : World, Calls Tryd.prog 48 #[.string (packB ((t.cs.drop a.toNat).take m.toNat))] W fun e w' => e = .returned (.string (oneB ((packB ((t.cs.drop a.toNat).take m.toNat)).size : Int) ++ packB ((t.cs.drop a.toNat).take m.toNat))) ∧ Below W.heap.size W w') := fun W => by rw [counted_eq]; exact l04Counted_any _ W (by omega)
  have z1 : (oneB 1).size = 1 := rfl
  have z2 : (oneB ((packB ((t.cs.drop a.toNat).take m.toNat)).size : Int) ++ packB ((t.cs.drop a.toNat).take m.toNat)).size ≤ 300 := by rw [ByteArray.size_append, show (oneB ((packB ((t.cs.drop a.toNat).take m.toNat)).size : Int)).size = 1 from rfl]; omega
  generalize oneB ((packB ((t.cs.drop a.toNat).take m.toNat)).size : Int) ++ packB ((t.cs.drop a.toNat).take m.toNat) = D at HCN z2 ⊢
  generalize packB ((t.cs.drop a.toNat).take m.toNat) = Pk at HPK HCN
  generalize oneB 1 = t1 at Hc z1 ⊢
  have hcat : ¬ 9223372036854775807 < t1.size + D.size := by omega
  clear z1 z2 hsz
  have HCP : Hid (∀ W, Below w.heap.size w W → Calls Tryd.prog 34 #[.agg #[.slice p1 t.cs.length c1, .slice p2 t.rs.length c2]] W fun e w' => ∃ u1 u2, e = .returned (.agg #[u1, u2]) ∧ OwnT w' W.heap.size u1 u2 t ∧ Below W.heap.size W w') := fun W hW => l05Copy_any t B _ _ W (by omega) (by omega) (HO.out.below hW)
  have hX : Hid _ := blk (blk (heap_alloc_new w (.cells #[.slice p1 t.cs.length c1, .slice p2 t.rs.length c2] 26)) (all_alloc _ (.cells #[.int .i64 1, .int .i64 a, .int .i64 m, .slice pv vs.length cv] 43))) (all_alloc _ (.cells #[.slice none 0 0, .slice none 0 0] 26))
  have hQ : Hid _ := blk (heap_alloc_new (w.alloc (.cells #[.slice p1 t.cs.length c1, .slice p2 t.rs.length c2] 26)) (.cells #[.int .i64 1, .int .i64 a, .int .i64 m, .slice pv vs.length cv] 43)) (all_alloc _ (.cells #[.slice none 0 0, .slice none 0 0] 26))
  have hY : Hid _ := heap_alloc_new ((w.alloc (.cells #[.slice p1 t.cs.length c1, .slice p2 t.rs.length c2] 26)).alloc (.cells #[.int .i64 1, .int .i64 a, .int .i64 m, .slice pv vs.length cv] 43)) (.cells #[.slice none 0 0, .slice none 0 0] 26)
  have hA0 : Below w.heap.size w (((w.alloc (.cells #[.slice p1 t.cs.length c1, .slice p2 t.rs.length c2] 26)).alloc (.cells #[.int .i64 1, .int .i64 a, .int .i64 m, .slice pv vs.length cv] 43)).alloc (.cells #[.slice none 0 0, .slice none 0 0] 26)) := keepB (keepB (all_alloc w _) (Nat.le_refl _) (all_alloc _ _)) (Nat.le_refl _) (all_alloc _ _)
  have e1 : (w.alloc (.cells #[.slice p1 t.cs.length c1, .slice p2 t.rs.length c2] 26)).heap.size = w.heap.size + 1 := by simp
  have e2 : ((w.alloc (.cells #[.slice p1 t.cs.length c1, .slice p2 t.rs.length c2] 26)).alloc (.cells #[.int .i64 1, .int .i64 a, .int .i64 m, .slice pv vs.length cv] 43)).heap.size = w.heap.size + 1 + 1 := by simp
  have e3 : (((w.alloc (.cells #[.slice p1 t.cs.length c1, .slice p2 t.rs.length c2] 26)).alloc (.cells #[.int .i64 1, .int .i64 a, .int .i64 m, .slice pv vs.length cv] 43)).alloc (.cells #[.slice none 0 0, .slice none 0 0] 26)).heap.size = w.heap.size + 1 + 1 + 1 := by simp
  rw [e1] at hQ
  rw [e2] at hY
  go_enter Tryd.func35, Tryd.ntmps35
  go_upto_region 1 with fail
  generalize ((w.alloc (.cells #[.slice p1 t.cs.length c1, .slice p2 t.rs.length c2] 26)).alloc (.cells #[.int .i64 1, .int .i64 a, .int .i64 m, .slice pv vs.length cv] 43)).alloc (.cells #[.slice none 0 0, .slice none 0 0] 26) = A at hX hQ hY hA0 e3 ⊢
  clear e1 e2
  have x0 := cellW hX.out 0 _ rfl A (Below.refl _ _)
  have x1 := cellW hX.out 1 _ rfl A (Below.refl _ _)
  go_upto_region 2 with (go_at_call 34; refine (HCP.out _ hA0).mono ?_; rintro e w2 ⟨u1, u2, rfl, own2, hb2⟩; obtain ⟨r1, d1, rfl⟩ := own2.c.shape; obtain ⟨r2, d2, rfl⟩ := own2.r.shape)
  have hG : Hid _ := heap_alloc_new w2 (.cells #[.slice r1 t.cs.length d1, .slice r2 t.rs.length d2] 26)
  have k3 : Below A.heap.size A (w2.alloc (.cells #[.slice r1 t.cs.length d1, .slice r2 t.rs.length d2] 26)) := keepB hb2 (Nat.le_refl _) (all_alloc _ _)
  have own3 : Hid (OwnT (w2.alloc (.cells #[.slice r1 t.cs.length d1, .slice r2 t.rs.length d2] 26)) (w.heap.size + 1 + 1 + 1) (.slice r1 t.cs.length d1) (.slice r2 t.rs.length d2) t) := (OwnT.leT own2 (by omega)).below (all_alloc _ _)
  have hGO : w.heap.size + 1 + 1 < w2.heap.size := by have := hb2.size; omega
  have hGOn : ∀ k, ((Value.slice r1 t.cs.length d1).ownBlock = some k ∨ (Value.slice r2 t.rs.length d2).ownBlock = some k) → k < w2.heap.size := fun k hk => hk.elim (fun h => (OwnI.lt own2.c k h).2) (fun h => (OwnI.lt own2.r k h).2)
  generalize w2.alloc (.cells #[.slice r1 t.cs.length d1, .slice r2 t.rs.length d2] 26) = W3 at hG k3 own3 ⊢
  generalize w2.heap.size = GO at hG hGO hGOn ⊢
  clear own2 hb2 hX x0 x1 HCP
  have hQ3 : Hid _ := blk hQ.out k3
  have a0 := cellW hQ3.out 0 _ rfl W3 (Below.refl _ _)
  have hc := Hc W3
  go_upto_region 3 with fail
  have k4 : Below W3.heap.size W3 (W3.alloc (.cells #[.int .u8 1] 5)) := all_alloc _ _
  generalize W3.alloc (.cells #[.int .u8 1] 5) = Z at k4 ⊢
  have hGZ : Hid _ := blk hG.out k4
  have hQZ : Hid _ := blk hQ3.out k4
  have hYZ : Hid _ := blk (blk hY.out k3) k4
  have ownZ : Hid (OwnT Z (w.heap.size + 1 + 1 + 1) (.slice r1 t.cs.length d1) (.slice r2 t.rs.length d2) t) := own3.out.below k4
  have hBZ : Below w.heap.size w Z := keepB (keepB hA0 (Nat.le_refl _) k3) (Nat.le_refl _) k4
  clear hc Hc a0 hG hQ3 hY own3 k3 k4 hQ hA0 e3
  obtain ⟨gr, cr, hrow, hcr⟩ : ∃ gr cr, Value.slice r1 t.cs.length d1 = .slice (some ⟨gr, 0, none⟩) t.cs.length cr ∧ t.cs.length ≤ cr := by
    obtain ⟨_, ⟨_, h0⟩ | ⟨g, cap, cur, e, _, _, hc, _⟩⟩ := ownZ.out.c
    · omega
    · exact ⟨g, cap, e, hc⟩
  have hS2 := slice2_I gr t.cs.length cr a m ha.1 hm.1 hle hcr
  have HPR : Hid (∀ W : World, Below Z.heap.size Z W → RowO W (.slice (some ⟨gr, a.toNat, none⟩) m.toNat (cr - a.toNat)) ((t.cs.drop a.toNat).take m.toNat)) := fun W hW => by
    have hri := (ownZ.out.below hW).c.row
    rw [hrow] at hri
    exact RowI.part hri a.toNat m.toNat (cr - a.toNat) (by omega) gr rfl
  cases hrow
  have HSH : Hid (∀ W, Below Z.heap.size Z W → Sh w GO (.cells #[.slice (some ⟨gr, 0, none⟩) t.cs.length d1, .slice r2 t.rs.length d2] 26 (0, 0)) (.cells #[.int .i64 1, .int .i64 a, .int .i64 m, .slice pv vs.length cv] 43 (0, 0)) W) := fun W hW => ⟨keepB hBZ (Nat.le_refl _) hW, blk hGZ.out hW, blk hQZ.out hW⟩
  have b0 := cellW hQZ.out 0 _ rfl Z (Below.refl _ _)
  go_upto_region 5 with fail
  clear b0
  have hAd : Below Z.heap.size Z Z.drew := Below.drew (Below.refl _ _)
  have q0 : ∀ W, Sh w GO (.cells #[.slice (some ⟨gr, 0, none⟩) t.cs.length d1, .slice r2 t.rs.length d2] 26 (0, 0)) (.cells #[.int .i64 1, .int .i64 a, .int .i64 m, .slice pv vs.length cv] 43 (0, 0)) W → W.cell? ⟨GO, 0, none⟩ = some (.slice (some ⟨gr, 0, none⟩) t.cs.length d1) := fun W hW => cellW hW.2.1 0 _ rfl W (Below.refl _ _)
  have q1 : ∀ W, Sh w GO (.cells #[.slice (some ⟨gr, 0, none⟩) t.cs.length d1, .slice r2 t.rs.length d2] 26 (0, 0)) (.cells #[.int .i64 1, .int .i64 a, .int .i64 m, .slice pv vs.length cv] 43 (0, 0)) W → W.cell? ⟨GO, 1, none⟩ = some (.slice r2 t.rs.length d2) := fun W hW => cellW hW.2.1 1 _ rfl W (Below.refl _ _)
  have q3 : ∀ W, Sh w GO (.cells #[.slice (some ⟨gr, 0, none⟩) t.cs.length d1, .slice r2 t.rs.length d2] 26 (0, 0)) (.cells #[.int .i64 1, .int .i64 a, .int .i64 m, .slice pv vs.length cv] 43 (0, 0)) W → W.cell? ⟨w.heap.size + 1, 1, none⟩ = some (.int .i64 a) := fun W hW => cellW hW.2.2 1 _ rfl W (Below.refl _ _)
  have q4 : ∀ W, Sh w GO (.cells #[.slice (some ⟨gr, 0, none⟩) t.cs.length d1, .slice r2 t.rs.length d2] 26 (0, 0)) (.cells #[.int .i64 1, .int .i64 a, .int .i64 m, .slice pv vs.length cv] 43 (0, 0)) W → W.cell? ⟨w.heap.size + 1, 2, none⟩ = some (.int .i64 m) := fun W hW => cellW hW.2.2 2 _ rfl W (Below.refl _ _)
  refine wp_region_held_drew (S := fun W => Sh w GO (.cells #[.slice (some ⟨gr, 0, none⟩) t.cs.length d1, .slice r2 t.rs.length d2] 26 (0, 0)) (.cells #[.int .i64 1, .int .i64 a, .int .i64 m, .slice pv vs.length cv] 43 (0, 0)) W) (by kernel_rfl) ?_ (fun hHeld => ?_)
  · exact HSH.out _ hAd
  refine yieldH (i := 0) (v := ?_) rfl (by kernel_rfl) (by kernel_rfl) (by kernel_rfl) (fun _ _ _ h => h) (by rfl) ?_ (by assumption) ?_; rotate_left
  · intro w' hSw; (try dsimp only at hSw); go_simp; (try with_reducible rfl)
  try simp only [Act.put, List.setIfInBounds_toArray, List.set_cons_zero, List.set_cons_succ, List.getElem_toArray, List.getElem_cons_succ, List.getElem_cons_zero]
  refine yieldH (i := 1) (v := ?_) rfl (by kernel_rfl) (by kernel_rfl) (by kernel_rfl) (fun _ _ _ h => h) (by rfl) ?_ (by assumption) ?_; rotate_left
  · intro w' hSw; (try dsimp only at hSw); go_simp; (try with_reducible rfl)
  try simp only [Act.put, List.setIfInBounds_toArray, List.set_cons_zero, List.set_cons_succ, List.getElem_toArray, List.getElem_cons_succ, List.getElem_cons_zero]
  refine yieldH (i := 2) (v := ?_) rfl (by kernel_rfl) (by kernel_rfl) (by kernel_rfl) (fun _ _ _ h => h) (by rfl) ?_ (by assumption) ?_; rotate_left
  · intro w' hSw; (try dsimp only at hSw); go_simp; (try with_reducible rfl)
  try simp only [Act.put, List.setIfInBounds_toArray, List.set_cons_zero, List.set_cons_succ, List.getElem_toArray, List.getElem_cons_succ, List.getElem_cons_zero]
  refine yieldH (i := 3) (v := ?_) rfl (by kernel_rfl) (by kernel_rfl) (by kernel_rfl) (fun _ _ _ h => h) (by rfl) ?_ (by assumption) ?_; rotate_left
  · intro w' hSw; (try dsimp only at hSw); go_simp; (try with_reducible rfl)
  try simp only [Act.put, List.setIfInBounds_toArray, List.set_cons_zero, List.set_cons_succ, List.getElem_toArray, List.getElem_cons_succ, List.getElem_cons_zero]
  refine yieldH (i := 4) (v := ?_) rfl (by kernel_rfl) (by kernel_rfl) (by kernel_rfl) (fun _ _ _ h => h) (by rfl) ?_ (by assumption) ?_; rotate_left
  · intro w' hSw; (try dsimp only at hSw); go_simp; (try with_reducible rfl)
  try simp only [Act.put, List.setIfInBounds_toArray, List.set_cons_zero, List.set_cons_succ, List.getElem_toArray, List.getElem_cons_succ, List.getElem_cons_zero]
  refine yieldH (i := 5) (v := ?_) rfl (by kernel_rfl) (by kernel_rfl) (by kernel_rfl) (fun _ _ _ h => h) (by rfl) ?_ (by assumption) ?_; rotate_left
  · intro w' hSw; (try dsimp only at hSw); go_simp; (try with_reducible rfl)
  try simp only [Act.put, List.setIfInBounds_toArray, List.set_cons_zero, List.set_cons_succ, List.getElem_toArray, List.getElem_cons_succ, List.getElem_cons_zero]
  refine yieldH (i := 6) (v := ?_) rfl (by kernel_rfl) (by kernel_rfl) (by kernel_rfl) (fun _ _ _ h => h) (by rfl) ?_ (by assumption) ?_; rotate_left
  · intro w' hSw; (try dsimp only at hSw); go_simp; (try with_reducible rfl)
  try simp only [Act.put, List.setIfInBounds_toArray, List.set_cons_zero, List.set_cons_succ, List.getElem_toArray, List.getElem_cons_succ, List.getElem_cons_zero]
  refine yieldH (i := 7) (v := ?_) rfl (by kernel_rfl) (by kernel_rfl) (by kernel_rfl) (fun _ _ _ h => h) (by rfl) ?_ (by assumption) ?_; rotate_left
  · intro w' hSw; (try dsimp only at hSw); go_simp; (try with_reducible rfl)
  try simp only [Act.put, List.setIfInBounds_toArray, List.set_cons_zero, List.set_cons_succ, List.getElem_toArray, List.getElem_cons_succ, List.getElem_cons_zero]
  refine yieldH (i := 8) (v := ?_) rfl (by kernel_rfl) (by kernel_rfl) (by kernel_rfl) (fun _ _ _ h => h) (by rfl) ?_ (by assumption) ?_; rotate_left
  · intro w' hSw; (try dsimp only at hSw); go_simp; (try with_reducible rfl)
  try simp only [Act.put, List.setIfInBounds_toArray, List.set_cons_zero, List.set_cons_succ, List.getElem_toArray, List.getElem_cons_succ, List.getElem_cons_zero]
  refine yieldH (i := 9) (v := ?_) rfl (by kernel_rfl) (by kernel_rfl) (by kernel_rfl) (fun _ _ _ h => h) (by rfl) ?_ (by assumption) ?_; rotate_left
  · intro w' hSw; (try dsimp only at hSw); go_simp; (try with_reducible rfl)
  try simp only [Act.put, List.setIfInBounds_toArray, List.set_cons_zero, List.set_cons_succ, List.getElem_toArray, List.getElem_cons_succ, List.getElem_cons_zero]
  refine yieldH (i := 10) (v := ?_) rfl (by kernel_rfl) (by kernel_rfl) (by kernel_rfl) (fun _ _ _ h => h) (by rfl) ?_ (by assumption) ?_; rotate_left
  · intro w' hSw; (try dsimp only at hSw); go_simp; (try with_reducible rfl)
  try simp only [Act.put, List.setIfInBounds_toArray, List.set_cons_zero, List.set_cons_succ, List.getElem_toArray, List.getElem_cons_succ, List.getElem_cons_zero]
  refine yieldH (i := 11) (v := ?_) rfl (by kernel_rfl) (by kernel_rfl) (by kernel_rfl) (fun _ _ _ h => h) (by rfl) ?_ (by assumption) ?_; rotate_left
  · intro w' hSw; (try dsimp only at hSw); go_simp; (try with_reducible rfl)
  try simp only [Act.put, List.setIfInBounds_toArray, List.set_cons_zero, List.set_cons_succ, List.getElem_toArray, List.getElem_cons_succ, List.getElem_cons_zero]
  refine wpAnyH_ready (rs := [12]) (by kernel_rfl) (by simp) ?_
  refine (AllReadyH.cons rfl (fun Kc hK => ?_) AllReadyH.nil)
  go_simp
  go_at_call 49; refine (HPK.out _ _ (HPR.out _ hAd)).mono ?_; rintro e w7 ⟨rfl, hb7⟩; have k7 : Below Z.heap.size Z w7 := keepB hAd (Nat.le_refl _) hb7
  try dsimp only
  refine hK.out _ _ ?_ (fun hHeld => ?_)
  · (try dsimp only); exact HSH.out _ k7
  clear hK Kc
  try simp only [Act.put, List.setIfInBounds_toArray, List.set_cons_zero, List.set_cons_succ, List.getElem_toArray, List.getElem_cons_succ, List.getElem_cons_zero]
  refine wpAnyH_ready (rs := [13]) (by kernel_rfl) (by simp) ?_
  refine (AllReadyH.cons rfl (fun Kc hK => ?_) AllReadyH.nil)
  go_simp
  go_at_call 48; refine (HCN.out _).mono ?_; rintro e w8 ⟨rfl, hb8⟩; have k8 : Below Z.heap.size Z w8 := keepB k7 (Nat.le_refl _) hb8
  try dsimp only
  refine hK.out _ _ ?_ (fun hHeld => ?_)
  · (try dsimp only); exact HSH.out _ k8
  clear hK Kc
  try simp only [Act.put, List.setIfInBounds_toArray, List.set_cons_zero, List.set_cons_succ, List.getElem_toArray, List.getElem_cons_succ, List.getElem_cons_zero]
  refine yieldH (i := 14) (v := ?_) rfl (by kernel_rfl) (by kernel_rfl) (by kernel_rfl) (fun _ _ _ h => h) (by rfl) ?_ (by assumption) ?_; rotate_left
  · intro w' hSw; (try dsimp only at hSw); go_simp; (try with_reducible rfl)
  try simp only [Act.put, List.setIfInBounds_toArray, List.set_cons_zero, List.set_cons_succ, List.getElem_toArray, List.getElem_cons_succ, List.getElem_cons_zero]
  have hY8 : Hid _ := blk hYZ.out k8
  have z0 := cellW hY8.out 0 _ rfl w8 (Below.refl _ _)
  have z1 := cellW hY8.out 1 _ rfl w8 (Below.refl _ _)
  have f0 := frozenW hY8.out 0 w8 (Below.refl _ _)
  have f1 := frozenW hY8.out 1 w8 (Below.refl _ _)
  have own8 : OwnT w8 (w.heap.size + 1 + 1 + 1) (.slice (some ⟨gr, 0, none⟩) t.cs.length d1) (.slice r2 t.rs.length d2) t := ownZ.out.below k8
  have hB8 : Below w.heap.size w w8 := keepB hBZ (Nat.le_refl _) k8
  have hG8 : Hid _ := blk hGZ.out k8
  have hQ8 : Hid _ := blk hQZ.out k8
  refine wpAnyH_ready (rs := [15]) (by kernel_rfl) (by simp) ?_
  refine (AllReadyH.cons rfl (fun Kc hK => ?_) AllReadyH.nil)
  go_simp
  try dsimp only
  refine hK.out _ _ ?_ (fun hHeld => ?_)
  · (try dsimp only); exact ⟨(hB8.setCell (by simp only; omega) _).setCell (by simp only; omega) _, blk_far (blk_far hG8.out (by simp only; omega) _) (by simp only; omega) _, blk_far (blk_far hQ8.out (by simp only; omega) _) (by simp only; omega) _⟩
  clear hK Kc
  try simp only [Act.put, List.setIfInBounds_toArray, List.set_cons_zero, List.set_cons_succ, List.getElem_toArray, List.getElem_cons_succ, List.getElem_cons_zero]
  refine yieldH (i := 16) (v := ?_) rfl (by kernel_rfl) (by kernel_rfl) (by kernel_rfl) (fun _ _ _ h => h) (by rfl) ?_ (by assumption) ?_; rotate_left
  · intro w' hSw; (try dsimp only at hSw); go_simp; (try with_reducible rfl)
  try simp only [Act.put, List.setIfInBounds_toArray, List.set_cons_zero, List.set_cons_succ, List.getElem_toArray, List.getElem_cons_succ, List.getElem_cons_zero]
  refine wpAnyH_done (by kernel_rfl) ?_ _
  go_wp2
  exact bodyPost_ret (v := .tuple #[.agg #[(.slice (some ⟨gr, 0, none⟩) t.cs.length d1), (.slice r2 t.rs.length d2)], .string (t1 ++ D)]) (by simp [results, Tryd.results35, go_sem, z0, z1]) rfl ⟨_, _, rfl, OwnT.leT (OwnT.farT (OwnT.farT own8 (by simp only; omega) _) (by simp only; omega) _) (by omega), (hB8.setCell (by simp only; omega) _).setCell (by simp only; omega) _⟩
end Go.Proofs.YtfpibedloodjlabDoor
