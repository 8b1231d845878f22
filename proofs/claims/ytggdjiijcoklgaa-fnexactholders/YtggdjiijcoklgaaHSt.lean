/- THE LAW'S MARKS at greater numbers. Written by mkbigm.py. -/
import Derived.Test.YtggdjiijcoklgaaHStnH
import Derived.Test.YtggdjiijcoklgaaHSegG
import Derived.Test.YtggdjiijcoklgaaProg
import Derived.Test.YtggdjiijcoklgaaHKeep
import Derived.Laws.Tables
import Derived.WalkKit
import Derived.WalkSpells
import Derived.Outline
import Derived.Below
namespace Go.Proofs.Ytggdjiijcoklgaa
open Go.RowKit
set_option linter.unusedVariables false
set_option linter.unusedSimpArgs false

set_option maxRecDepth 100000 in
set_option maxHeartbeats 800000 in
theorem markInt64S_big (s : Int) (hs : 0 ≤ s ∧ s ≤ 100000000) (base : Nat) (v : Value) (zs : List Int) (w : World) (hl : zs.length ≤ 2000000) (h : OwnI w base v zs) :
    Calls Try.prog 26 #[v, .int .i64 s] w fun e w' => e = .returned (.int .i64 (s + (zs.length : Int))) ∧ OwnI w' base v (countK s zs.length) ∧ w.grownBy w' v.ownBlock := by
  obtain ⟨p, cap, rfl⟩ := h.shape
  have HO : Hid (OwnI _ _ _ _) := h
  clear h
  go_enter Try.func26, Try.ntmps26
  go_wp2
  go_loopw [1, 5] (fun x i wr => ∃ j : Nat, j ≤ zs.length ∧ i = .int .i64 j ∧ x = .int .i64 (s + (j : Int)) ∧ Hid (OwnI wr base (.slice p zs.length cap) (countK s j ++ zs.drop j)) ∧ Hid (w.grownBy wr (Value.slice p zs.length cap).ownBlock)) (fun _ i _ => zs.length - (intOf i).toNat)
  case atStart => exact ⟨0, Nat.zero_le _, rfl, by simp, (show OwnI _ _ _ _ from HO.out), grown_reflI _ _⟩
  case round =>
    obtain ⟨j, hj, rfl, rfl, HW, HGR⟩ := hrel
    have hlen : (countK s j ++ zs.drop j).length = zs.length := by rw [List.length_append, countK_length, List.length_drop]; omega
    by_cases hlt : j < zs.length
    · have hk : j < (countK s j ++ zs.drop j).length := by rw [hlen]; exact hlt
      obtain ⟨g, hpg, _, hgl, hq, hf⟩ := HW.out.cell j hk
      subst hpg
      have HST : Hid _ := countK_step s zs j hlt
      have h1 := HW.out.set j hk (s + (j : Int))
      generalize (countK s j ++ zs.drop j)[j] = old at hq
      go_wp2
      go_roundw
      case rel => exact ⟨j + 1, by omega, by go_num, by go_num, (show OwnI _ _ _ _ by rw [← HST.out]; exact h1), grown_setI HGR.out j _⟩
      case measure => simp [intOf]; omega
    · obtain rfl : j = zs.length := by omega
      go_wp2
      go_ret
      refine ⟨rfl, ?_, HGR.out⟩
      have := HW.out
      rwa [List.drop_length, List.append_nil] at this
set_option maxRecDepth 100000 in
set_option maxHeartbeats 800000 in
theorem markText_big (K : Nat) (w : World) (h1 : 0 < K) (h2 : K ≤ 100000000) :
    Calls Try.prog 99 #[.int .i64 K] w fun e w' => e = .returned (.string (markB K)) ∧ Below w.heap.size w w' := by
  go_enter Try.func99, Try.ntmps99
  go_wp2
  go_loopw [0, 3] (fun x t wr => ∃ (n : Nat) (s : ByteArray), n ≤ K ∧ x = .int .i64 n ∧ t = .string s ∧ s.size ≤ 100000000 ∧ Hid (digsN n ++ s.data.toList = digsN K) ∧ Below w.heap.size w wr)
    (fun x _ _ => (intOf x).toNat)
  case atStart => exact ⟨K, ByteArray.empty, Nat.le_refl _, rfl, rfl, by simp, by simp [Hid], Below.refl _ _⟩
  case round =>
    obtain ⟨n, s, hn, rfl, rfl, hs, HL, hbel⟩ := hrel
    have hsz := hbel.size
    by_cases hlt : 0 < n
    · have hcv := digit_conv wr n
      have HD : Hid _ := digsN_pos hlt
      have hle : s.size + 1 ≤ 100000000 := by
        have h3 := congrArg List.length HL.out
        have h4 := digsN_len K
        rw [List.length_append, list_length, digsN_pos hlt, List.length_append, List.length_singleton] at h3
        omega
      have hz1 : (bytesOf [UInt8.ofNat (48 + n % 10)]).size = 1 := bytesOf_size _
      have HA : Hid _ := bytesOf_list [UInt8.ofNat (48 + n % 10)]
      generalize bytesOf [UInt8.ofNat (48 + n % 10)] = D at hcv hz1 HA
      go_wp2
      go_roundw
      case rel => exact ⟨n / 10, D ++ s, by omega, by go_num, rfl, by rw [ByteArray.size_append]; omega, (show _ = _ by rw [list_append, HA.out, ← List.append_assoc, ← HD.out]; exact HL.out), hbel.alloc hsz _⟩
      case measure => simp [intOf]; omega
    · have hz1 : (bytesOf [109]).size = 1 := bytesOf_size _
      have e : markB K = bytesOf [109] ++ s := by
        unfold markB
        rw [← bytesOf_append, ← HL.out, show n = 0 by omega, digsN_zero, List.nil_append, bytesOf_data]
      have he : Hid _ := e
      clear e
      go_wp2
      go_ret
      exact ⟨by rw [he.out]; rfl, hbel⟩
theorem markInts_big (s : Int) (hs : 0 ≤ s ∧ s ≤ 100000000) (lo hi : Nat) (v : Value) (zs : List Int) (w : World) (hl : zs.length ≤ 2000000) (h : OwnIB w lo hi v zs) :
    Calls Try.prog 26 #[v, .int .i64 s] w fun e w' => e = .returned (.int .i64 (s + (zs.length : Int))) ∧ OwnIB w' lo hi v (countK s zs.length) ∧ Only w w' lo hi :=
  (markInt64S_big s hs lo v zs w hl h.1).mono fun e w' ⟨h1, h2, h3⟩ => ⟨h1, ⟨h2, h.2⟩, Only.grown h3 fun k e => ⟨(OwnI.lt h.1 k e).1, h.2 k e⟩⟩
set_option maxRecDepth 100000 in
set_option maxHeartbeats 1600000 in
theorem markGlobS_big (k : Int) (hk0 : 0 ≤ k ∧ k ≤ 50000000) (lo hi : Nat) (v : Value) (gs : List (Int × List Int)) (w : World) (hl : (gs.length : Int) + (wsum gs : Int) ≤ 1048576) (h : OwnGB w lo hi v gs) :
    Calls Try.prog 50 #[v, .int .i64 k] w fun e w' => e = .returned (.int .i64 (k + ((gs.length : Int) + (wsum gs : Int)))) ∧ OwnGB w' lo hi v (markG k gs) ∧ Only w w' lo hi := by
  have HS : Hid (MarkG w lo hi v gs k 0) := MarkG.start h k
  obtain ⟨p, c, rfl⟩ := h.g.shape
  clear h
  have hl2 : gs.length ≤ 1048576 := by omega
  have HL : Hid _ := hl
  clear hl
  go_enter Try.func50, Try.ntmps50
  go_wp2
  go_loopw [1, 5] (fun x i wr => ∃ (j : Nat) (M : Int), j ≤ gs.length ∧ i = .int .i64 j ∧ x = .int .i64 M ∧ (0 ≤ M ∧ M ≤ 70000000) ∧ Hid (M = k + (j : Int) + (wsum (gs.take j) : Int)) ∧ Hid (MarkG wr lo hi (.slice p gs.length c) gs k j) ∧ Hid (Only w wr lo hi)) (fun _ i _ => gs.length - (intOf i).toNat)
  case atStart => exact ⟨0, k, Nat.zero_le _, rfl, rfl, by omega, (show _ = _ by simp [wsum]), HS.out, Only.refl _ _ _⟩
  case round =>
    obtain ⟨j, M, hj, rfl, rfl, hM, HM, HW, HO⟩ := hrel
    by_cases hlt : j < gs.length
    · obtain ⟨g, rfl, hg1, hg2, hgl, ⟨x, hq⟩, hf⟩ := HW.out.cell j hlt
      obtain ⟨u, hu, hou, hug, hnext⟩ := MarkG.step (w2 := wr) HW.out hlt M HM.out
      have HT : Hid _ := wsum_take gs j hlt
      have HE : Hid _ := wsum_le gs (j + 1)
      have hnw : gs[j].2.length ≤ 1048576 := by have h1 := HT.out; have h2 := HE.out; have h3 := HL.out; omega
      have hMl : M + 1 + (gs[j].2.length : Int) ≤ 70000000 := by have h1 := HT.out; have h2 := HE.out; have h3 := HL.out; have h4 := HM.out; omega
      have HC : Hid (Calls Try.prog 26 #[u, .int .i64 (M + 1)] (wr.setCell ⟨g, j * 2, none⟩ (.int .i64 M)) fun e w' => e = .returned (.int .i64 (M + 1 + (gs[j].2.length : Int))) ∧ MarkG w' lo hi (.slice (some ⟨g, 0, none⟩) gs.length c) gs k (j + 1) ∧ Only (wr.setCell ⟨g, j * 2, none⟩ (.int .i64 M)) w' lo hi) := (markInt64S_big (M + 1) (by omega) lo u gs[j].2 _ (by omega) hou.1).mono fun e w' ⟨h1, h2, h3⟩ => ⟨h1, hnext w' h3 ⟨h2, hou.2⟩, Only.grown h3 fun k e => ⟨(OwnI.lt hou.1 k e).1, hou.2 k e⟩⟩
      have HO2 : Hid (Only w (wr.setCell ⟨g, j * 2, none⟩ (.int .i64 M)) lo hi) := HO.out.trans (Only.set (a := ⟨g, j * 2, none⟩) hg1 hg2 _)
      have HM2 : Hid (M + 1 + (gs[j].2.length : Int) = k + ((j + 1 : Nat) : Int) + (wsum (gs.take (j + 1)) : Int)) := (by have h1 := HT.out; have h4 := HM.out; push_cast; omega : _ = _)
      clear hnext hug hou
      generalize gs[j].2.length = n at HC hMl HM2 hnw
      clear HT HE
      go_upto_region 6 with fail
      generalize wr.setCell ⟨g, j * 2, none⟩ (.int .i64 M) = W at hu HC HO2 ⊢
      go_wp2_with (go_at_call 26; refine HC.out.mono ?_; rintro e w2 ⟨rfl, hm2, ho2⟩)
      go_roundw
      case rel => exact ⟨j + 1, M + 1 + (n : Int), by omega, by go_num, by go_num, by omega, HM2.out, hm2, HO2.out.trans ho2⟩
      case measure => simp [intOf]; omega
    · obtain rfl : j = gs.length := by omega
      have e1 := HM.out
      rw [List.take_length] at e1
      have E2 : Hid (k + ((gs.length : Int) + (wsum gs : Int)) = M) := (by omega : _ = _)
      clear e1
      go_wp2
      go_ret
      exact ⟨by rw [E2.out]; rfl, HW.out.done, HO.out⟩
set_option maxRecDepth 100000 in
set_option maxHeartbeats 1600000 in
theorem markStringS_big (k : Nat) (hk0 : 0 < k ∧ k ≤ 70000000) (lo hi : Nat) (v : Value) (ss : List ByteArray) (w : World) (hl : ss.length ≤ 1048576) (h : OwnTB w lo hi v ss) :
    Calls Try.prog 51 #[v, .int .i64 k] w fun e w' => e = .returned (.int .i64 ((k : Int) + (ss.length : Int))) ∧ OwnTB w' lo hi v (marksK k ss.length) ∧ Only w w' lo hi := by
  obtain ⟨p, cap, rfl⟩ := h.1.shape
  have HH : Hid (∀ g, (Value.slice p ss.length cap).ownBlock = some g → lo ≤ g ∧ g < hi) := fun g e => ⟨(h.1.lt g e).1, h.2 g e⟩
  have HO : Hid (OwnT4 w lo (.slice p ss.length cap) ss) := h.1
  have HB : Hid _ := h.2
  clear h
  go_enter Try.func51, Try.ntmps51
  go_wp2
  go_loopw [1, 5] (fun x i wr => ∃ j : Nat, j ≤ ss.length ∧ i = .int .i64 j ∧ x = .int .i64 ((k : Int) + (j : Int)) ∧ Hid (OwnT4 wr lo (.slice p ss.length cap) (marksK k j ++ ss.drop j)) ∧ Hid (w.grownBy wr (Value.slice p ss.length cap).ownBlock)) (fun _ i _ => ss.length - (intOf i).toNat)
  case atStart => exact ⟨0, Nat.zero_le _, rfl, by simp, (show OwnT4 _ _ _ _ from HO.out), grown_reflI _ _⟩
  case round =>
    obtain ⟨j, hj, rfl, rfl, HW, HGR⟩ := hrel
    have hlen : (marksK k j ++ ss.drop j).length = ss.length := by rw [List.length_append, marksK_length, List.length_drop]; omega
    by_cases hlt : j < ss.length
    · obtain ⟨g, hpg, _, hgl, _, _⟩ := HW.out.cell j (by rw [hlen]; exact hlt)
      subst hpg
      have HM : Hid (∀ w : World, Calls Try.prog 99 #[.int .i64 ((k : Int) + (j : Int))] w fun e w' => e = .returned (.string (markB (k + j))) ∧ Below w.heap.size w w') := fun W => by have := markText_big (k + j) W (by omega) (by omega); rwa [show ((k + j : Nat) : Int) = (k : Int) + (j : Int) by omega] at this
      have HST : Hid _ := marksK_step k ss j hlt
      generalize markB (k + j) = m at HM HST
      have hk : j < (marksK k j ++ ss.drop j).length := by rw [hlen]; exact hlt
      obtain ⟨old, hqq⟩ : ∃ old, ∀ W, Below wr.heap.size wr W → W.cell? ⟨g, j, none⟩ = some (.string old) ∧ W.frozen? ⟨g, j, none⟩ = false := by
        refine ⟨(marksK k j ++ ss.drop j)[j], fun W hW => ?_⟩
        obtain ⟨g', hg', _, _, q1, q2⟩ := (HW.out.below hW).cell j hk
        cases hg'
        exact ⟨q1, q2⟩
      have hq := fun W hW => (hqq W hW).1
      have hf := fun W hW => (hqq W hW).2
      clear hqq
      go_wp2_with (go_at_call 99; refine (HM.out _).mono ?_; rintro e w1 ⟨rfl, hb1⟩)
      have h1 := HW.out.below hb1
      go_roundw
      case rel => exact ⟨j + 1, by omega, by go_num, by go_num, (show OwnT4 _ _ _ _ by rw [← HST.out]; exact h1.set j hk m), grown_setI (grown_belowI HGR.out hb1) j _⟩
      case measure => simp [intOf]; omega
    · obtain rfl : j = ss.length := by omega
      go_wp2
      go_ret
      refine ⟨rfl, ⟨?_, HB.out⟩, Only.grown HGR.out HH.out⟩
      have := HW.out
      rwa [List.drop_length, List.append_nil] at this
end Go.Proofs.Ytggdjiijcoklgaa
/- OWN ROWS of stations, bools and notes: built, held, read. -/
namespace Go.Proofs.Ytggdjiijcoklgaa
open Go.RowKit
set_option linter.unusedVariables false
set_option linter.unusedSimpArgs false

theorem setCells_far (b : Nat) : ∀ (vs : List Value) (o : Nat) (w : World) (k : Nat), k ≠ b → (w.setCells b o vs).heap[k]? = w.heap[k]?
  | [], _, _, _, _ => rfl
  | v :: r, o, w, k, h => by
    rw [World.setCells, setCells_far b r (o + 1) _ k h]
    exact Below.heap_setCell _ _ _ _ (by simpa using h)
theorem setCells_row (b : Nat) (t : TypeId) : ∀ (vs : List Value) (o : Nat) (w : World) (cur : Array Value), w.heap[b]? = some (.cells cur t (0, 0)) → ∃ cur', (w.setCells b o vs).heap[b]? = some (.cells cur' t (0, 0)) ∧ cur'.size = cur.size
  | [], _, _, cur, h => ⟨cur, h, rfl⟩
  | v :: r, o, w, cur, h => by
    rw [World.setCells]
    obtain ⟨c, h1, h2⟩ := setCells_row b t r (o + 1) _ _ (blk_set h o v)
    exact ⟨c, h1, by rw [h2, Array.size_setIfInBounds]⟩
theorem setCells_size (b : Nat) : ∀ (vs : List Value) (o : Nat) (w : World), (w.setCells b o vs).heap.size = w.heap.size
  | [], _, _ => rfl
  | v :: r, o, w => by
    rw [World.setCells, setCells_size b r (o + 1)]
    simp [World.setCell]
theorem Below.setCells {B : Nat} {w : World} (b : Nat) (hB : B ≤ b) : ∀ (vs : List Value) (o : Nat) (w' : World), Below B w w' → Below B w (w'.setCells b o vs)
  | [], _, _, h => h
  | v :: r, o, w', h => by
    rw [World.setCells]
    exact Below.setCells b hB r (o + 1) _ (h.setCell hB v)
theorem Same.setCells {w : World} {lo hi g : Nat} (hg : g < lo ∨ hi ≤ g) (o : Nat) (cs : List Value) : Same w (w.setCells g o cs) lo hi := fun k h1 h2 => setCells_far g cs o w k (by omega)
theorem there_row {w : World} {r : Nat} {cur : Array Value} {t : TypeId} (h : w.heap[r]? = some (.cells cur t (0, 0))) (o n : Nat) (hn : o + n ≤ cur.size) : w.there r o n := fun j hj => by
  refine ⟨?_, frozenW h (o + j) w (Below.refl _ _)⟩
  rw [cell_of_row w r (o + j) cur t (0, 0) h, Array.getElem?_eq_getElem (by omega)]
  rfl
theorem mul_step {k j m : Nat} (h : k < j) : k * m + m ≤ j * m := by
  have := Nat.mul_le_mul_right m (show k + 1 ≤ j from h)
  rw [Nat.add_mul, Nat.one_mul] at this
  exact this
/-- one more thing stored into a row -/
theorem part_step {w : World} {r m n j : Nat} {t : TypeId} {cur : Array Value} (hg : w.heap[r]? = some (.cells cur t (0, 0))) (hs : cur.size = n * m) (hj : j < n) (c : List Value) (hc : c.length = m) :
    w.there r (j * m) m ∧ (∃ cur', (w.setCells r (j * m) c).heap[r]? = some (.cells cur' t (0, 0)) ∧ cur'.size = n * m) ∧ (w.setCells r (j * m) c).rangeAt r (j * m) c ∧
    ∀ k, k < j → ∀ d : List Value, d.length = m → w.rangeAt r (k * m) d → (w.setCells r (j * m) c).rangeAt r (k * m) d := by
  have h1 := mul_step (m := m) hj
  have ht : w.there r (j * m) m := there_row hg _ _ (by omega)
  obtain ⟨cur', h2, h3⟩ := setCells_row r t c (j * m) w cur hg
  refine ⟨ht, ⟨cur', h2, by omega⟩, World.rangeAt_setCells_same w r (j * m) c (by rw [hc]; exact ht), fun k hk d hd hr => ?_⟩
  have h4 := mul_step (m := m) hk
  exact World.rangeAt_setCells_apart hr r (j * m) c (.inr (.inl (by omega)))

/-- stations in a row, and where each one's lists lie -/
def StAt (w : World) (lo hi g : Nat) (ss : List Stn) (ls : List (Vs × Nat × Nat)) : Prop :=
  ls.length = ss.length ∧
  (∀ k (h : k < ss.length) (h' : k < ls.length), w.rangeAt g (k * 19) (stC ss[k] ls[k].1) ∧ lo ≤ ls[k].2.1 ∧ ls[k].2.2 ≤ hi ∧ OwnStnB w ls[k].2.1 ls[k].2.2 ls[k].1.a ls[k].1.b ls[k].1.c ls[k].1.d ss[k] ∧ (g < ls[k].2.1 ∨ ls[k].2.2 ≤ g)) ∧
  (∀ i j (h : i < ls.length) (h' : j < ls.length), i ≠ j → ls[i].2.2 ≤ ls[j].2.1 ∨ ls[j].2.2 ≤ ls[i].2.1)
/-- own stations -/
def OwnStS (w : World) (lo hi : Nat) (v : Value) (ss : List Stn) : Prop :=
  hi ≤ w.heap.size ∧ ((v = .slice none 0 0 ∧ ss = []) ∨ ∃ g c cur ls, v = .slice (some ⟨g, 0, none⟩) ss.length c ∧ lo ≤ g ∧ g < hi ∧ w.heap[g]? = some (.cells cur 33 (0, 0)) ∧ cur.size = c * 19 ∧ ss.length ≤ c ∧ StAt w lo hi g ss ls)
def OwnBS (w : World) (lo hi : Nat) (v : Value) (us : List Bool) : Prop :=
  hi ≤ w.heap.size ∧ ((v = .slice none 0 0 ∧ us = []) ∨ ∃ g c cur, v = .slice (some ⟨g, 0, none⟩) us.length c ∧ lo ≤ g ∧ g < hi ∧ w.heap[g]? = some (.cells cur 4 (0, 0)) ∧ cur.size = c * 1 ∧ us.length ≤ c ∧ ∀ k (h : k < us.length), w.rangeAt g (k * 1) [.bool us[k]])
def ntC (n : Nt) : List Value := [.int .i64 n.f, .int .i64 n.t, .string n.b]
def OwnNS (w : World) (lo hi : Nat) (v : Value) (ns : List Nt) : Prop :=
  hi ≤ w.heap.size ∧ ((v = .slice none 0 0 ∧ ns = []) ∨ ∃ g c cur, v = .slice (some ⟨g, 0, none⟩) ns.length c ∧ lo ≤ g ∧ g < hi ∧ w.heap[g]? = some (.cells cur 130 (0, 0)) ∧ cur.size = c * 3 ∧ ns.length ≤ c ∧ ∀ k (h : k < ns.length), w.rangeAt g (k * 3) (ntC ns[k]))
theorem range_same {w w' : World} {lo hi g o : Nat} {cs : List Value} (h : w.rangeAt g o cs) (h1 : lo ≤ g) (h2 : g < hi) (hs : Same w w' lo hi) : w'.rangeAt g o cs := fun j v hv => by
  have := h j v hv
  unfold World.cell? at this ⊢
  rw [hs g h1 h2]
  exact this
theorem StAt.same {w w' : World} {lo hi g : Nat} {ss : List Stn} {ls : List (Vs × Nat × Nat)} (h : StAt w lo hi g ss ls) (h1 : lo ≤ g) (h2 : g < hi) (hs : Same w w' lo hi) (hz : w.heap.size ≤ w'.heap.size) : StAt w' lo hi g ss ls := by
  obtain ⟨hl, hk, hd⟩ := h
  refine ⟨hl, fun k a b => ?_, hd⟩
  obtain ⟨r, c1, c2, o, d⟩ := hk k a b
  exact ⟨range_same r h1 h2 hs, c1, c2, o.same (fun q x y => hs q (by omega) (by omega)) hz, d⟩
theorem OwnStS.same {w w' : World} {lo hi : Nat} {v : Value} {ss : List Stn} (h : OwnStS w lo hi v ss) (hs : Same w w' lo hi) (hz : w.heap.size ≤ w'.heap.size) : OwnStS w' lo hi v ss := by
  obtain ⟨h0, h | ⟨g, c, cur, ls, e, h1, h2, h3, h4, h5, h6⟩⟩ := h
  · exact ⟨by omega, .inl h⟩
  · exact ⟨by omega, .inr ⟨g, c, cur, ls, e, h1, h2, (hs g h1 h2).trans h3, h4, h5, h6.same h1 h2 hs hz⟩⟩
theorem OwnBS.same {w w' : World} {lo hi : Nat} {v : Value} {us : List Bool} (h : OwnBS w lo hi v us) (hs : Same w w' lo hi) (hz : w.heap.size ≤ w'.heap.size) : OwnBS w' lo hi v us := by
  obtain ⟨h0, h | ⟨g, c, cur, e, h1, h2, h3, h4, h5, h6⟩⟩ := h
  · exact ⟨by omega, .inl h⟩
  · exact ⟨by omega, .inr ⟨g, c, cur, e, h1, h2, (hs g h1 h2).trans h3, h4, h5, fun k hk => range_same (h6 k hk) h1 h2 hs⟩⟩
theorem OwnNS.same {w w' : World} {lo hi : Nat} {v : Value} {ns : List Nt} (h : OwnNS w lo hi v ns) (hs : Same w w' lo hi) (hz : w.heap.size ≤ w'.heap.size) : OwnNS w' lo hi v ns := by
  obtain ⟨h0, h | ⟨g, c, cur, e, h1, h2, h3, h4, h5, h6⟩⟩ := h
  · exact ⟨by omega, .inl h⟩
  · exact ⟨by omega, .inr ⟨g, c, cur, e, h1, h2, (hs g h1 h2).trans h3, h4, h5, fun k hk => range_same (h6 k hk) h1 h2 hs⟩⟩
theorem OwnStS.row {w : World} {lo hi : Nat} {v : Value} {ss : List Stn} (h : OwnStS w lo hi v ss) : RowSt w v ss := by
  obtain ⟨h0, ⟨rfl, rfl⟩ | ⟨g, c, cur, ls, rfl, h1, h2, h3, h4, h5, hl, hk, hd⟩⟩ := h
  · exact ⟨none, 0, rfl, fun k hk => absurd hk (by simp)⟩
  · refine ⟨some ⟨g, 0, none⟩, c, rfl, fun k hk' => ?_⟩
    obtain ⟨r, c1, c2, o, d⟩ := hk k hk' (by omega)
    have o2 := o.stn.rows
    exact ⟨g, ls[k].1, rfl, by omega, r, o2.1, o2.2.1, o2.2.2.1, o2.2.2.2⟩
theorem OwnBS.row {w : World} {lo hi : Nat} {v : Value} {us : List Bool} (h : OwnBS w lo hi v us) : RowBo w v us := by
  obtain ⟨h0, ⟨rfl, rfl⟩ | ⟨g, c, cur, rfl, h1, h2, h3, h4, h5, h6⟩⟩ := h
  · exact ⟨none, 0, rfl, fun k hk => absurd hk (by simp)⟩
  · refine ⟨some ⟨g, 0, none⟩, c, rfl, fun k hk => ⟨g, rfl, by omega, ?_⟩⟩
    simpa using h6 k hk 0 _ rfl
theorem OwnNS.row {w : World} {lo hi : Nat} {v : Value} {ns : List Nt} (h : OwnNS w lo hi v ns) : RowN w v ns := by
  obtain ⟨h0, ⟨rfl, rfl⟩ | ⟨g, c, cur, rfl, h1, h2, h3, h4, h5, h6⟩⟩ := h
  · exact ⟨none, 0, rfl, fun k hk => absurd hk (by simp)⟩
  · exact ⟨some ⟨g, 0, none⟩, c, rfl, fun k hk => ⟨g, rfl, by omega, by simpa using h6 k hk 0 _ rfl, h6 k hk 1 _ rfl, h6 k hk 2 _ rfl⟩⟩
/-- the first stations copied -/
def PartSt (w : World) (r n : Nat) (ss : List Stn) (j : Nat) : Prop :=
  ∃ cur ls, w.heap[r]? = some (.cells cur 33 (0, 0)) ∧ cur.size = n * 19 ∧ StAt w (r + 1) w.heap.size r (ss.take j) ls
theorem take_at {α : Type} {ss : List α} {j k : Nat} (h : k < (ss.take j).length) : (ss.take j)[k] = ss[k]'(by rw [List.length_take] at h; omega) := List.getElem_take
theorem PartSt.start {w : World} {r n : Nat} {ss : List Stn} {cur : Array Value} (h : w.heap[r]? = some (.cells cur 33 (0, 0))) (hs : cur.size = n * 19) : PartSt w r n ss 0 :=
  ⟨cur, [], h, hs, by simp, fun k h => absurd h (by simp), fun i j h => absurd h (by simp)⟩
theorem PartSt.there {w w2 : World} {r n j : Nat} {ss : List Stn} (h : PartSt w r n ss j) (hj : j < n) (hb : Below w.heap.size w w2) : w2.there r (j * 19) 19 := by
  obtain ⟨cur, ls, hg, hs, _⟩ := h
  have hr : r < w.heap.size := (Array.getElem?_eq_some_iff.1 hg).1
  have := mul_step (m := 19) hj
  exact there_row ((hb.block r hr).trans hg) _ _ (by omega)
theorem PartSt.step {w w2 : World} {r n j : Nat} {ss : List Stn} (h : PartSt w r n ss j) (hn : n = ss.length) (hj : j < ss.length) (hb : Below w.heap.size w w2) (u : Vs) (ho : OwnStn w2 w.heap.size u.a u.b u.c u.d ss[j]) :
    PartSt (w2.setCells r (j * 19) (stC ss[j] u)) r n ss (j + 1) := by
  obtain ⟨cur, ls, hg, hs, hl, hk, hd⟩ := h
  have hr : r < w.heap.size := (Array.getElem?_eq_some_iff.1 hg).1
  have hz := hb.size
  have hlj : ls.length = j := by rw [hl, List.length_take]; omega
  obtain ⟨_, ⟨cur', g1, g2⟩, g3, g4⟩ := part_step ((hb.block r hr).trans hg) hs (by omega : j < n) (stC ss[j] u) (stC_len _ _)
  refine ⟨cur', ls ++ [(u, w.heap.size, w2.heap.size)], g1, g2, ?_, ?_, ?_⟩
  · rw [List.length_append, List.length_take, hlj]; simp; omega
  · intro k a b
    rw [take_at a, setCells_size]
    rw [List.length_take] at a
    by_cases hkj : k < j
    · rw [List.getElem_append_left (by omega)]
      have a' : k < (ss.take j).length := by rw [List.length_take]; omega
      obtain ⟨q1, q2, q3, q4, q5⟩ := hk k a' (by omega)
      rw [take_at a'] at q1 q4
      refine ⟨g4 k hkj _ (stC_len _ _) (range_below q1 hr hb), q2, by omega, (q4.below hb).same (Same.setCells (.inl (by omega)) _ _) (by rw [setCells_size]; exact Nat.le_refl _), .inl (by omega)⟩
    · obtain rfl : k = j := by omega
      subst hlj
      rw [List.getElem_append_right (by omega)]
      simp only [Nat.sub_self, List.getElem_cons_zero]
      exact ⟨g3, by omega, Nat.le_refl _, ho.top.same (Same.setCells (.inl (by omega)) _ _) (by rw [setCells_size]; exact Nat.le_refl _), .inl (by omega)⟩
  · intro i k a b hik
    rw [List.length_append, List.length_singleton] at a b
    have key : ∀ m (hm : m < ls.length), ls[m].2.2 ≤ w.heap.size := fun m hm => (hk m (by omega) hm).2.2.1
    by_cases h1 : i < ls.length
    · by_cases h2 : k < ls.length
      · rw [List.getElem_append_left h1, List.getElem_append_left h2]
        exact hd i k h1 h2 hik
      · obtain rfl : k = ls.length := by omega
        rw [List.getElem_append_left h1, List.getElem_append_right (by omega)]
        simp only [Nat.sub_self, List.getElem_cons_zero]
        exact .inl (key i h1)
    · obtain rfl : i = ls.length := by omega
      have h2 : k < ls.length := by omega
      rw [List.getElem_append_left h2, List.getElem_append_right (by omega)]
      simp only [Nat.sub_self, List.getElem_cons_zero]
      exact .inr (key k h2)
theorem PartSt.all {w : World} {r n : Nat} {ss : List Stn} (h : PartSt w r n ss n) (hn : n = ss.length) (hm : n ≤ maxLen) : OwnStS w r w.heap.size (.slice (some ⟨r, 0, none⟩) n n) ss := by
  subst hn
  obtain ⟨cur, ls, hg, hs, h6⟩ := h
  rw [List.take_length] at h6
  obtain ⟨hl, hk, hd⟩ := h6
  exact ⟨Nat.le_refl _, .inr ⟨r, ss.length, cur, ls, rfl, Nat.le_refl _, (Array.getElem?_eq_some_iff.1 hg).1, hg, hs, Nat.le_refl _, hl, fun k a b => ⟨(hk k a b).1, by have := (hk k a b).2.1; omega, (hk k a b).2.2⟩, hd⟩⟩
end Go.Proofs.Ytggdjiijcoklgaa
/- THE WALKS of stamps: right, and below: the program's and the model's. -/
namespace Go.Proofs.Ytggdjiijcoklgaa
open Go.RowKit
set_option linter.unusedVariables false
set_option linter.unusedSimpArgs false

theorem isTime_any (n : Int) (w : World) : Calls Try.prog 88 #[.int .i64 n] w fun e w' => e = .returned (.bool (timeB n)) ∧ w = w' := by
  by_cases h1 : 0 ≤ n <;> by_cases h2 : n ≤ 1000000
  all_goals
    go_enter Try.func88, Try.ntmps88
    go_wp2
    go_ret
    exact ⟨ret_bool (by simp [timeB, h1, h2]), rfl⟩
theorem isAddress_any (n : Int) (w : World) : Calls Try.prog 87 #[.int .i64 n] w fun e w' => e = .returned (.bool (addrB n)) ∧ w = w' := by
  by_cases h1 : 1 ≤ n <;> by_cases h2 : n ≤ 8
  all_goals
    go_enter Try.func87, Try.ntmps87
    go_wp2
    go_ret
    exact ⟨ret_bool (by simp [addrB, h1, h2]), rfl⟩
theorem l02Is_any (n lo hi : Int) (w : World) : Calls Try.prog 79 #[.int .i64 n, .int .i64 lo, .int .i64 hi] w fun e w' => e = .returned (.bool (decide (lo ≤ n) && decide (n ≤ hi))) ∧ w = w' := by
  by_cases h1 : lo ≤ n <;> by_cases h2 : n ≤ hi
  all_goals
    go_enter Try.func79, Try.ntmps79
    go_wp2
    go_ret
    exact ⟨ret_bool (by simp [h1, h2]), rfl⟩
theorem l02Time_any (n : Int) (w : World) : Calls Try.prog 78 #[.int .i64 n] w fun e w' => e = .returned (.bool (timeB n)) ∧ w = w' := by
  go_enter Try.func78, Try.ntmps78
  go_wp2_with (go_at_call 79; refine (l02Is_any n 0 1000000 _).mono ?_; rintro e w' ⟨rfl, rfl⟩)
  go_ret
  exact ⟨rfl, rfl⟩
theorem l02Addr_any (n : Int) (w : World) : Calls Try.prog 69 #[.int .i64 n] w fun e w' => e = .returned (.bool (addrB n)) ∧ w = w' := by
  go_enter Try.func69, Try.ntmps69
  go_wp2_with (go_at_call 79; refine (l02Is_any n 1 8 _).mono ?_; rintro e w' ⟨rfl, rfl⟩)
  go_ret
  exact ⟨rfl, rfl⟩
theorem l02Word_any (n : Int) (w : World) : Calls Try.prog 108 #[.int .i64 n] w fun e w' => e = .returned (.bool (wordB n)) ∧ w = w' := by
  go_enter Try.func108, Try.ntmps108
  go_wp2_with (go_at_call 79; refine (l02Is_any n 0 65535 _).mono ?_; rintro e w' ⟨rfl, rfl⟩)
  go_ret
  exact ⟨rfl, rfl⟩
theorem isNone_any (s : St) (w : World) : Calls Try.prog 111 #[.agg #[.int .i64 s.g, .int .i64 s.o, .int .i64 s.b, .int .i64 s.h]] w fun e w' => e = .returned (.bool s.none) ∧ Below w.heap.size w w' := by
  go_enter Try.func111, Try.ntmps111
  go_wp2
  all_goals
    go_ret
    exact ⟨ret_bool (by simp_all [St.none]), (Below.refl _ _).alloc (Nat.le_refl _) _⟩
set_option maxRecDepth 100000 in
set_option maxHeartbeats 1600000 in
theorem stampRight_any (s : St) (w : World) : Calls Try.prog 109 #[.agg #[.int .i64 s.g, .int .i64 s.o, .int .i64 s.b, .int .i64 s.h]] w fun e w' => e = .returned (.bool s.right) ∧ Below w.heap.size w w' := by
  by_cases h0 : s.o = 0
  · obtain ⟨g, o, b, h⟩ := s
    simp only at h0
    subst h0
    have HN : Hid _ := fun w => isNone_any ⟨g, 0, b, h⟩ w
    have hr : (St.mk g 0 b h).right = (St.mk g 0 b h).none := by simp [St.right]
    rw [hr]
    generalize (St.mk g 0 b h).none = R at HN
    go_enter Try.func109, Try.ntmps109
    go_wp2_with (go_at_call 111; refine (HN.out _).mono ?_; rintro e w1 ⟨rfl, hb1⟩)
    go_ret
    exact ⟨rfl, ((Below.refl _ _).alloc (Nat.le_refl _) _).trans (hb1.mono (by simp))⟩
  · have q0 : (s.o == 0) = false := by simpa using h0
    have key : s.right = (addrB s.o && (timeB s.g && (timeB s.b && timeB s.h))) := by simp [St.right, h0]
    rw [key]
    cases ha : addrB s.o <;> cases hg : timeB s.g <;> cases hbb : timeB s.b
    all_goals
      go_enter Try.func109, Try.ntmps109
      go_wp2_with (first
        | (go_at_call 87; refine (isAddress_any s.o _).mono ?_; rintro e w1 ⟨rfl, rfl⟩; rw [ha])
        | (go_at_call 88; refine (isTime_any _ _).mono ?_; rintro e w1 ⟨rfl, rfl⟩; first | rw [hg] | rw [hbb] | skip))
      go_ret
      exact ⟨ret_bool (by simp), ((Below.refl _ _).alloc (Nat.le_refl _) _)⟩
set_option maxRecDepth 100000 in
set_option maxHeartbeats 1600000 in
theorem specStampRight_any (s : St) (w : World) : Calls Try.prog 80 #[.agg #[.int .i64 s.g, .int .i64 s.o, .int .i64 s.b, .int .i64 s.h]] w fun e w' => e = .returned (.bool s.right) ∧ Below w.heap.size w w' := by
  by_cases h0 : s.o = 0
  · have q0 : (s.o == 0) = true := by simpa using h0
    go_enter Try.func80, Try.ntmps80
    go_wp2
    all_goals
      go_ret
      exact ⟨ret_bool (by simp_all [St.right, St.none]), ((Below.refl _ _).alloc (Nat.le_refl _) _)⟩
  · have q0 : (s.o == 0) = false := by simpa using h0
    have key : s.right = (addrB s.o && (timeB s.g && (timeB s.b && timeB s.h))) := by simp [St.right, h0]
    rw [key]
    cases ha : addrB s.o <;> cases hg : timeB s.g <;> cases hbb : timeB s.b
    all_goals
      go_enter Try.func80, Try.ntmps80
      go_wp2_with (first
        | (go_at_call 69; refine (l02Addr_any s.o _).mono ?_; rintro e w1 ⟨rfl, rfl⟩; rw [ha])
        | (go_at_call 78; refine (l02Time_any _ _).mono ?_; rintro e w1 ⟨rfl, rfl⟩; first | rw [hg] | rw [hbb] | skip))
      go_ret
      exact ⟨ret_bool (by simp), ((Below.refl _ _).alloc (Nat.le_refl _) _)⟩
end Go.Proofs.Ytggdjiijcoklgaa
