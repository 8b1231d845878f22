/- THE NUMBERS UP TO THE FIRST ZERO: the model's l08Read. -/
import Derived.Test.YtimocipgikefoabPaW
namespace Go.Proofs.Ytimocipgikefoab
open Go.RowKit
set_option linter.unusedVariables false
set_option linter.unusedSimpArgs false

theorem indexS (s : ByteArray) (i : Nat) (h : i < s.size) (w : World) : (Instr.index 9 (.string s) (.int .i64 (i : Int))).run Try.prog w = .ok (.int .u8 (s[i].toNat : Int)) w := by
  rw [run_index_string w 9 s .i64 _ Try.underlying9, dif_pos (by omega)]
  simp
theorem up0_go (l : List UInt8) : ∀ k, (∀ j (h : j < l.length), j < k → l[j] ≠ 0) → (∀ h : k < l.length, l[k] = 0) → up0 l = (l.take k).map fun b => (b.toNat : Int) := by
  induction l with
  | nil => intro k _ _; simp [up0]
  | cons c l ih =>
    intro k h1 h2
    cases k with
    | zero =>
      have : c = 0 := h2 (by simp)
      subst this
      simp [up0]
    | succ k =>
      have hc : c ≠ 0 := h1 0 (by simp) (by omega)
      have := ih k (fun j hj hjk => by have := h1 (j + 1) (by simpa using hj) (by omega); simpa using this) (fun hk => by have := h2 (by simpa using hk); simpa using this)
      unfold up0 at this ⊢
      rw [List.takeWhile_cons, if_pos (by simpa using hc), List.map_cons, this, List.take_succ_cons, List.map_cons]
set_option maxRecDepth 100000 in
set_option maxHeartbeats 1600000 in
theorem l08Read_any (s : ByteArray) (w : World) (hz : s.size ≤ 8000) :
    Calls Try.prog 23 #[.string s] w fun e w' => ∃ v, e = .returned v ∧ OwnI w' w.heap.size v (up0 s.data.toList) ∧ Below w.heap.size w w' := by
  have hO0 : Hid (OwnI (w.alloc (.cells #[] 2)) w.heap.size (.slice (some ⟨w.heap.size, 0, none⟩) 0 0) ((s.data.toList.take 0).map fun b => (b.toNat : Int))) := ⟨by simp, .inr ⟨w.heap.size, 0, #[], rfl, Nat.le_refl _, heap_alloc_new w _, Nat.le_refl _, by unfold maxLen; omega, rfl, rfl⟩⟩
  have hB0 : Hid (Below w.heap.size w (w.alloc (.cells #[] 2))) := all_alloc w _
  have hdl : s.data.toList.length = s.size := by simp
  have HU : Hid (∀ k, (∀ j (h : j < s.data.toList.length), j < k → s.data.toList[j] ≠ 0) → (∀ h : k < s.data.toList.length, s.data.toList[k] = 0) → up0 s.data.toList = (s.data.toList.take k).map fun b => (b.toNat : Int)) := up0_go s.data.toList
  generalize up0 s.data.toList = UF at HU ⊢
  go_enter Try.func23, Try.ntmps23
  go_wp2
  go_loopw [3, 4] (fun out i wr => ∃ (k : Nat) (p : Option Addr) (n c : Nat), k ≤ s.size ∧ i = .int .i64 k ∧ out = .slice p n c ∧ Hid (OwnI wr w.heap.size (.slice p n c) ((s.data.toList.take k).map fun b => (b.toNat : Int))) ∧ Hid (∀ j (h : j < s.data.toList.length), j < k → s.data.toList[j] ≠ 0) ∧ Hid (Below w.heap.size w wr)) (fun _ i _ => s.size - (intOf i).toNat)
  case atStart => exact ⟨0, _, _, _, Nat.zero_le _, rfl, rfl, hO0, (fun j h hj => absurd hj (by omega) : ∀ j (h : j < s.data.toList.length), j < 0 → s.data.toList[j] ≠ 0), hB0⟩
  case round =>
    obtain ⟨k, p, n, c, hk, rfl, rfl, HO, HN, HB⟩ := hrel
    by_cases hlt : k < s.size
    · have hix := indexS s k hlt
      have hkl : k < s.data.toList.length := by omega
      have hsk : s.data.toList[k] = s[k] := rfl
      by_cases h0 : s[k] = 0
      · have e0 : ((s[k].toNat : Int) != 0) = false := by rw [h0]; rfl
        have eU : UF = (s.data.toList.take k).map fun b => (b.toNat : Int) := HU.out k HN.out (fun h => by rw [hsk]; exact h0)
        rw [← eU] at HO
        clear eU h0 HN HU
        generalize s[k].toNat = r at hix e0
        go_wp2
        go_ret
        exact ⟨_, rfl, HO.out, HB.out⟩
      · have e0 : ((s[k].toNat : Int) != 0) = true := by
          have : s[k].toNat ≠ 0 := fun h => h0 (UInt8.toNat_inj.1 (by rw [h]; rfl))
          simp; omega
        have HN2 : Hid (∀ j (h : j < s.data.toList.length), j < k + 1 → s.data.toList[j] ≠ 0) := fun j h hj => by
          by_cases e : j = k
          · subst e; rw [hsk]; exact h0
          · exact HN.out j h (by omega)
        have HST : Hid ((s.data.toList.take (k + 1)).map (fun b => (b.toNat : Int)) = (s.data.toList.take k).map (fun b => (b.toNat : Int)) ++ [(s[k].toNat : Int)]) := by
          show _ = _
          rw [List.take_succ_eq_append_getElem hkl, List.map_append, hsk]
          rfl
        have hr8 : s[k].toNat < 256 := s[k].toNat_lt
        have hll : ((s.data.toList.take k).map fun b => (b.toNat : Int)).length ≤ 100000 := by rw [List.length_map, List.length_take]; omega
        clear h0 HN
        generalize s[k].toNat = r at hix e0 HST hr8
        have hob := all_alloc wr (.cells #[.int .i64 r] 2)
        have hcell : (wr.alloc (.cells #[.int .i64 r] 2)).cell? ⟨wr.heap.size, 0, none⟩ = some (.int .i64 r) := cellW (heap_alloc_new wr _) 0 _ rfl _ (Below.refl _ _)
        obtain ⟨v', w2, hrun, hown, hgr, hloc⟩ := app_oneK (wr.alloc (.cells #[.int .i64 r] 2)) 22 w.heap.size (.slice p n c) _ (HO.out.below hob) wr.heap.size r hcell hll (by have := hob.size; have := HB.out.size; omega)
        have hO2 : Hid (OwnI w2 w.heap.size v' ((s.data.toList.take (k + 1)).map fun b => (b.toNat : Int))) := by show OwnI _ _ _ _; rw [HST.out]; exact hown
        obtain ⟨p', n', c', rfl⟩ : ∃ p n c, v' = .slice p n c := by obtain ⟨p, c, e⟩ := hown.shape; exact ⟨p, _, c, e⟩
        have hlt2 := OwnI.lt (HO.out.below hob)
        have hB2 : Hid (Below w.heap.size w w2) := (keepB HB.out (Nat.le_refl _) hob).grown hgr (by have := hob.size; have := HB.out.size; omega) (fun k e => (hlt2 _ e).1)
        have hwr := wrapr r (by omega)
        clear hown hgr hloc hlt2 hob HO HB
        go_wp2_with (at_builtin; refine wpList_plain rfl fun K hK => ?_; unfold Oper.wp; simp [execOp, resolve, invoke, builtin, Act.eval, hrun, Result.andThen]; refine hK _ _ ?_)
        go_roundw
        case rel => exact ⟨k + 1, _, _, _, by omega, by go_num, rfl, hO2, HN2, hB2⟩
        case measure => simp [intOf]; omega
    · obtain rfl : k = s.size := by omega
      have eU : UF = (s.data.toList.take s.size).map fun b => (b.toNat : Int) := HU.out s.size HN.out (fun h => by omega)
      rw [← eU] at HO
      clear eU HN HU
      go_wp2
      go_ret
      exact ⟨_, rfl, HO.out, HB.out⟩
end Go.Proofs.Ytimocipgikefoab
