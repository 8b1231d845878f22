/- A PATH READ: the program's PathRead. -/
import Derived.Test.YtineecongiplgaaQpPaW
namespace Go.Proofs.Ytineecongiplgaa
open Go.RowKit
set_option linter.unusedVariables false
set_option linter.unusedSimpArgs false

theorem bytes_of_list {a b : ByteArray} (h : a.toList = b.toList) : a = b := by
  rw [Lib.toList_data, Lib.toList_data] at h
  exact ByteArray.ext (Array.toList_inj.1 h)
set_option maxRecDepth 100000 in
set_option maxHeartbeats 1600000 in
theorem pathRead_any (s : ByteArray) (w : World) (hz : s.size ≤ 9223372036854775807) :
    Calls Try.prog 14 #[.string s] w fun e w' => ∃ u1 u2, e = .returned (.agg #[u1, u2, .int .i64 (readPa s).a, .int .i64 (readPa s).c]) ∧ OwnT w' w.heap.size u1 u2 (readPa s).t ∧ Below w.heap.size w w' := by
  have hY : Hid _ := heap_alloc_new w (.cells #[.slice none 0 0, .slice none 0 0, .int .i64 0, .int .i64 0] 28)
  have hA0 : Below w.heap.size w (w.alloc (.cells #[.slice none 0 0, .slice none 0 0, .int .i64 0, .int .i64 0] 28)) := all_alloc w _
  have e3 : w.heap.size + 1 ≤ (w.alloc (.cells #[.slice none 0 0, .slice none 0 0, .int .i64 0, .int .i64 0] 28)).heap.size := by simp
  by_cases h8 : 8000 < s.size
  · have eP : readPa s = ⟨zeroT, 0, 2⟩ := by unfold readPa; rw [if_pos h8]
    rw [eP]
    have h8' : (8000 : Int) < s.size := by omega
    clear eP
    go_enter Try.func14, Try.ntmps14
    go_upto_region 1 with fail
    generalize w.alloc (.cells #[.slice none 0 0, .slice none 0 0, .int .i64 0, .int .i64 0] 28) = A at hY hA0 e3 ⊢
    have z0 := cellW hY.out 0 _ rfl A (Below.refl _ _); have z1 := cellW hY.out 1 _ rfl A (Below.refl _ _); have z2 := cellW hY.out 2 _ rfl A (Below.refl _ _); have z3 := cellW hY.out 3 _ rfl A (Below.refl _ _); have fz0 := frozenW hY.out 0 A (Below.refl _ _); have fz1 := frozenW hY.out 1 A (Below.refl _ _); have fz2 := frozenW hY.out 2 A (Below.refl _ _); have fz3 := frozenW hY.out 3 A (Below.refl _ _)
    go_wp2
    exact bodyPost_ret (v := .agg #[.slice none 0 0, .slice none 0 0, .int .i64 0, .int .i64 2]) (by simp [results, Try.results14, go_sem, z0, z1, z2, z3]; try rfl) rfl ⟨_, _, rfl, ⟨OwnI.nil _ _, OwnI.nil _ _, fun a b h => by cases h⟩, (by first | exact hA0 | exact hA0.setCell (by simp only; omega) _ | exact (hA0.setCell (by simp only; omega) _).setCell (by simp only; omega) _ | exact ((((hA0.setCell (by simp only; omega) _).setCell (by simp only; omega) _).setCell (by simp only; omega) _).setCell (by simp only; omega) _))⟩
  have h8' : ¬ (8000 : Int) < s.size := by omega
  have HRP : Hid (∀ W : World, Calls Try.prog 49 #[.string s] W fun e w' => ∃ v1 v2, e = .returned (.agg #[v1, v2]) ∧ OwnT w' W.heap.size v1 v2 (rdAll s) ∧ Below W.heap.size W w') := fun W => readPath_any s W (by omega)
  have HPB : Hid (∀ (W : World) (B : Nat) (v1 v2 : Value), OwnT W B v1 v2 (rdAll s) → Calls Try.prog 12 #[.agg #[v1, v2]] W fun e w' => e = .returned (.string (pathB (rdAll s))) ∧ Below W.heap.size W w') := fun W B v1 v2 h => pathBytes_any (rdAll s) B v1 v2 W (by have := (rdAll_len s).1; omega) (by have := (rdAll_len s).2; omega) h
  have HP : Hid (readPa s = if pathB (rdAll s) = s then ⟨rdAll s, 0, 0⟩ else ⟨zeroT, 0, 3⟩) := by show _ = _; unfold readPa; rw [if_neg h8]
  generalize readPa s = PP at HP ⊢
  generalize hbe : pathB (rdAll s) = BB at HPB HP
  clear hbe
  generalize rdAll s = T at HRP HPB HP
  by_cases hb : BB = s
  · have eP : PP = ⟨T, 0, 0⟩ := by rw [HP.out, if_pos hb]
    subst eP
    subst hb
    have e0 : (BB.toList == BB.toList) = true := by simp
    clear HP
    go_enter Try.func14, Try.ntmps14
    go_upto_region 1 with fail
    generalize w.alloc (.cells #[.slice none 0 0, .slice none 0 0, .int .i64 0, .int .i64 0] 28) = A at hY hA0 e3 ⊢
    go_upto_region 4 with (go_at_call 49; refine (HRP.out _).mono ?_; rintro e w1 ⟨v1, v2, rfl, own1, hb1⟩; obtain ⟨p1, c1, rfl⟩ := own1.c.shape; obtain ⟨p2, c2, rfl⟩ := own1.r.shape)
    have hP1 : Hid _ := heap_alloc_new w1 (.cells #[.slice p1 T.cs.length c1, .slice p2 T.rs.length c2] 26)
    have hY1 : Hid _ := blk (blk hY.out hb1) (all_alloc w1 (.cells #[.slice p1 T.cs.length c1, .slice p2 T.rs.length c2] 26))
    have hO1 : Hid (OwnT _ _ _ _ _) := own1.below (all_alloc w1 (.cells #[.slice p1 T.cs.length c1, .slice p2 T.rs.length c2] 26))
    have hB1 := keepB (keepB hA0 (Nat.le_refl _) hb1) (Nat.le_refl _) (all_alloc w1 (.cells #[.slice p1 T.cs.length c1, .slice p2 T.rs.length c2] 26))
    generalize w1.alloc (.cells #[.slice p1 T.cs.length c1, .slice p2 T.rs.length c2] 26) = W1 at hP1 hY1 hO1 hB1 ⊢
    have q0 := cellW hP1.out 0 _ rfl W1 (Below.refl _ _)
    have q1 := cellW hP1.out 1 _ rfl W1 (Below.refl _ _)
    clear hb1 own1 hY hA0
    go_wp2_with (go_at_call 12; refine (HPB.out _ _ _ _ hO1.out).mono ?_; rintro e w3 ⟨rfl, hb3⟩; have hP3 : Hid _ := blk hP1.out hb3; have r0 := cellW hP3.out 0 _ rfl w3 (Below.refl _ _); have r1 := cellW hP3.out 1 _ rfl w3 (Below.refl _ _); have hY3 : Hid _ := blk hY1.out hb3; have z0 := cellW hY3.out 0 _ rfl w3 (Below.refl _ _); have z1 := cellW hY3.out 1 _ rfl w3 (Below.refl _ _); have z2 := cellW hY3.out 2 _ rfl w3 (Below.refl _ _); have z3 := cellW hY3.out 3 _ rfl w3 (Below.refl _ _); have fz0 := frozenW hY3.out 0 w3 (Below.refl _ _); have fz1 := frozenW hY3.out 1 w3 (Below.refl _ _); have fz2 := frozenW hY3.out 2 w3 (Below.refl _ _); have fz3 := frozenW hY3.out 3 w3 (Below.refl _ _))
    have hB3 := keepB hB1 (Nat.le_refl _) hb3
    have hO3 := OwnT.leT (B := w.heap.size + 1) (hO1.out.below hb3) (by omega)
    exact bodyPost_ret (v := .agg #[.slice p1 T.cs.length c1, .slice p2 T.rs.length c2, .int .i64 0, .int .i64 0]) (by simp [results, Try.results14, go_sem, z0, z1, z2, z3]; try rfl) rfl ⟨_, _, rfl, OwnT.leT (OwnT.farT (OwnT.farT (OwnT.farT (OwnT.farT hO3 (by simp only; omega) _) (by simp only; omega) _) (by simp only; omega) _) (by simp only; omega) _) (by omega), (by first | exact hB3 | exact hB3.setCell (by simp only; omega) _ | exact (hB3.setCell (by simp only; omega) _).setCell (by simp only; omega) _ | exact ((((hB3.setCell (by simp only; omega) _).setCell (by simp only; omega) _).setCell (by simp only; omega) _).setCell (by simp only; omega) _))⟩
  · have eP : PP = ⟨zeroT, 0, 3⟩ := by rw [HP.out, if_neg hb]
    subst eP
    have e0 : (BB.toList == s.toList) = false := by
      rw [Bool.eq_false_iff]
      intro h
      exact hb (bytes_of_list (by simpa using h))
    clear HP hb
    go_enter Try.func14, Try.ntmps14
    go_upto_region 1 with fail
    generalize w.alloc (.cells #[.slice none 0 0, .slice none 0 0, .int .i64 0, .int .i64 0] 28) = A at hY hA0 e3 ⊢
    go_upto_region 4 with (go_at_call 49; refine (HRP.out _).mono ?_; rintro e w1 ⟨v1, v2, rfl, own1, hb1⟩; obtain ⟨p1, c1, rfl⟩ := own1.c.shape; obtain ⟨p2, c2, rfl⟩ := own1.r.shape)
    have hP1 : Hid _ := heap_alloc_new w1 (.cells #[.slice p1 T.cs.length c1, .slice p2 T.rs.length c2] 26)
    have hY1 : Hid _ := blk (blk hY.out hb1) (all_alloc w1 (.cells #[.slice p1 T.cs.length c1, .slice p2 T.rs.length c2] 26))
    have hO1 : Hid (OwnT _ _ _ _ _) := own1.below (all_alloc w1 (.cells #[.slice p1 T.cs.length c1, .slice p2 T.rs.length c2] 26))
    have hB1 := keepB (keepB hA0 (Nat.le_refl _) hb1) (Nat.le_refl _) (all_alloc w1 (.cells #[.slice p1 T.cs.length c1, .slice p2 T.rs.length c2] 26))
    generalize w1.alloc (.cells #[.slice p1 T.cs.length c1, .slice p2 T.rs.length c2] 26) = W1 at hP1 hY1 hO1 hB1 ⊢
    have q0 := cellW hP1.out 0 _ rfl W1 (Below.refl _ _)
    have q1 := cellW hP1.out 1 _ rfl W1 (Below.refl _ _)
    clear hb1 own1 hY hA0
    go_wp2_with (go_at_call 12; refine (HPB.out _ _ _ _ hO1.out).mono ?_; rintro e w3 ⟨rfl, hb3⟩; have hY3 : Hid _ := blk hY1.out hb3; have z0 := cellW hY3.out 0 _ rfl w3 (Below.refl _ _); have z1 := cellW hY3.out 1 _ rfl w3 (Below.refl _ _); have z2 := cellW hY3.out 2 _ rfl w3 (Below.refl _ _); have z3 := cellW hY3.out 3 _ rfl w3 (Below.refl _ _); have fz0 := frozenW hY3.out 0 w3 (Below.refl _ _); have fz1 := frozenW hY3.out 1 w3 (Below.refl _ _); have fz2 := frozenW hY3.out 2 w3 (Below.refl _ _); have fz3 := frozenW hY3.out 3 w3 (Below.refl _ _))
    have hB3 := keepB hB1 (Nat.le_refl _) hb3
    exact bodyPost_ret (v := .agg #[.slice none 0 0, .slice none 0 0, .int .i64 0, .int .i64 3]) (by simp [results, Try.results14, go_sem, z0, z1, z2, z3]; try rfl) rfl ⟨_, _, rfl, ⟨OwnI.nil _ _, OwnI.nil _ _, fun a b h => by cases h⟩, (by first | exact hB3 | exact hB3.setCell (by simp only; omega) _ | exact (hB3.setCell (by simp only; omega) _).setCell (by simp only; omega) _ | exact ((((hB3.setCell (by simp only; omega) _).setCell (by simp only; omega) _).setCell (by simp only; omega) _).setCell (by simp only; omega) _))⟩
end Go.Proofs.Ytineecongiplgaa
/- THE NUMBERS UP TO THE FIRST ZERO: the model's l08Read. -/
namespace Go.Proofs.Ytineecongiplgaa
open Go.RowKit
set_option linter.unusedVariables false
set_option linter.unusedSimpArgs false

theorem indexS (s : ByteArray) (i : Nat) (h : i < s.size) (w : World) : (Instr.index 9 (.string s) (.int .i64 (i : Int))).run Try.prog w = .ok (.int .u8 (s[i].toNat : Int)) w := by
  rw [run_index_string w 9 s .i64 _ Try.underlying9, dif_pos (by omega)]
  simp
theorem up0_go (l : List UInt8) : ∀ k, (∀ j (h : j < l.length), j < k → l[j] ≠ 0) → (∀ h : k < l.length, l[k] = 0) → up0 l = (l.take k).map fun b => (b.toNat : Int) := by
  induction l with
  | nil => intro k _ _; simp [up0]
  | cons c l ih =>
    intro k h1 h2
    cases k with
    | zero =>
      have : c = 0 := h2 (by simp)
      subst this
      simp [up0]
    | succ k =>
      have hc : c ≠ 0 := h1 0 (by simp) (by omega)
      have := ih k (fun j hj hjk => by have := h1 (j + 1) (by simpa using hj) (by omega); simpa using this) (fun hk => by have := h2 (by simpa using hk); simpa using this)
      unfold up0 at this ⊢
      rw [List.takeWhile_cons, if_pos (by simpa using hc), List.map_cons, this, List.take_succ_cons, List.map_cons]
set_option maxRecDepth 100000 in
set_option maxHeartbeats 1600000 in
theorem l08Read_any (s : ByteArray) (w : World) (hz : s.size ≤ 8000) :
    Calls Try.prog 55 #[.string s] w fun e w' => ∃ v, e = .returned v ∧ OwnI w' w.heap.size v (up0 s.data.toList) ∧ Below w.heap.size w w' := by
  have hO0 : Hid (OwnI (w.alloc (.cells #[] 2)) w.heap.size (.slice (some ⟨w.heap.size, 0, none⟩) 0 0) ((s.data.toList.take 0).map fun b => (b.toNat : Int))) := ⟨by simp, .inr ⟨w.heap.size, 0, #[], rfl, Nat.le_refl _, heap_alloc_new w _, Nat.le_refl _, by unfold maxLen; omega, rfl, rfl⟩⟩
  have hB0 : Hid (Below w.heap.size w (w.alloc (.cells #[] 2))) := all_alloc w _
  have hdl : s.data.toList.length = s.size := by simp
  have HU : Hid (∀ k, (∀ j (h : j < s.data.toList.length), j < k → s.data.toList[j] ≠ 0) → (∀ h : k < s.data.toList.length, s.data.toList[k] = 0) → up0 s.data.toList = (s.data.toList.take k).map fun b => (b.toNat : Int)) := up0_go s.data.toList
  generalize up0 s.data.toList = UF at HU ⊢
  go_enter Try.func55, Try.ntmps55
  go_wp2
  go_loopw [3, 4] (fun out i wr => ∃ (k : Nat) (p : Option Addr) (n c : Nat), k ≤ s.size ∧ i = .int .i64 k ∧ out = .slice p n c ∧ Hid (OwnI wr w.heap.size (.slice p n c) ((s.data.toList.take k).map fun b => (b.toNat : Int))) ∧ Hid (∀ j (h : j < s.data.toList.length), j < k → s.data.toList[j] ≠ 0) ∧ Hid (Below w.heap.size w wr)) (fun _ i _ => s.size - (intOf i).toNat)
  case atStart => exact ⟨0, _, _, _, Nat.zero_le _, rfl, rfl, hO0, (fun j h hj => absurd hj (by omega) : ∀ j (h : j < s.data.toList.length), j < 0 → s.data.toList[j] ≠ 0), hB0⟩
  case round =>
    obtain ⟨k, p, n, c, hk, rfl, rfl, HO, HN, HB⟩ := hrel
    by_cases hlt : k < s.size
    · have hix := indexS s k hlt
      have hkl : k < s.data.toList.length := by omega
      have hsk : s.data.toList[k] = s[k] := rfl
      by_cases h0 : s[k] = 0
      · have e0 : ((s[k].toNat : Int) != 0) = false := by rw [h0]; rfl
        have eU : UF = (s.data.toList.take k).map fun b => (b.toNat : Int) := HU.out k HN.out (fun h => by rw [hsk]; exact h0)
        rw [← eU] at HO
        clear eU h0 HN HU
        generalize s[k].toNat = r at hix e0
        go_wp2
        go_ret
        exact ⟨_, rfl, HO.out, HB.out⟩
      · have e0 : ((s[k].toNat : Int) != 0) = true := by
          have : s[k].toNat ≠ 0 := fun h => h0 (UInt8.toNat_inj.1 (by rw [h]; rfl))
          simp; omega
        have HN2 : Hid (∀ j (h : j < s.data.toList.length), j < k + 1 → s.data.toList[j] ≠ 0) := fun j h hj => by
          by_cases e : j = k
          · subst e; rw [hsk]; exact h0
          · exact HN.out j h (by omega)
        have HST : Hid ((s.data.toList.take (k + 1)).map (fun b => (b.toNat : Int)) = (s.data.toList.take k).map (fun b => (b.toNat : Int)) ++ [(s[k].toNat : Int)]) := by
          show _ = _
          rw [List.take_succ_eq_append_getElem hkl, List.map_append, hsk]
          rfl
        have hr8 : s[k].toNat < 256 := s[k].toNat_lt
        have hll : ((s.data.toList.take k).map fun b => (b.toNat : Int)).length ≤ 100000 := by rw [List.length_map, List.length_take]; omega
        clear h0 HN
        generalize s[k].toNat = r at hix e0 HST hr8
        have hob := all_alloc wr (.cells #[.int .i64 r] 2)
        have hcell : (wr.alloc (.cells #[.int .i64 r] 2)).cell? ⟨wr.heap.size, 0, none⟩ = some (.int .i64 r) := cellW (heap_alloc_new wr _) 0 _ rfl _ (Below.refl _ _)
        obtain ⟨v', w2, hrun, hown, hgr, hloc⟩ := app_oneK (wr.alloc (.cells #[.int .i64 r] 2)) 23 w.heap.size (.slice p n c) _ (HO.out.below hob) wr.heap.size r hcell hll (by have := hob.size; have := HB.out.size; omega)
        have hO2 : Hid (OwnI w2 w.heap.size v' ((s.data.toList.take (k + 1)).map fun b => (b.toNat : Int))) := by show OwnI _ _ _ _; rw [HST.out]; exact hown
        obtain ⟨p', n', c', rfl⟩ : ∃ p n c, v' = .slice p n c := by obtain ⟨p, c, e⟩ := hown.shape; exact ⟨p, _, c, e⟩
        have hlt2 := OwnI.lt (HO.out.below hob)
        have hB2 : Hid (Below w.heap.size w w2) := (keepB HB.out (Nat.le_refl _) hob).grown hgr (by have := hob.size; have := HB.out.size; omega) (fun k e => (hlt2 _ e).1)
        have hwr := wrapr r (by omega)
        clear hown hgr hloc hlt2 hob HO HB
        go_wp2_with (at_builtin; refine wpList_plain rfl fun K hK => ?_; unfold Oper.wp; simp [execOp, resolve, invoke, builtin, Act.eval, hrun, Result.andThen]; refine hK _ _ ?_)
        go_roundw
        case rel => exact ⟨k + 1, _, _, _, by omega, by go_num, rfl, hO2, HN2, hB2⟩
        case measure => simp [intOf]; omega
    · obtain rfl : k = s.size := by omega
      have eU : UF = (s.data.toList.take s.size).map fun b => (b.toNat : Int) := HU.out s.size HN.out (fun h => by omega)
      rw [← eU] at HO
      clear eU HN HU
      go_wp2
      go_ret
      exact ⟨_, rfl, HO.out, HB.out⟩
end Go.Proofs.Ytineecongiplgaa
