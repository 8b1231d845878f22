/- ROWS OF Wait: counted, copied and held against each other by the law itself. Written by mkrec.py. -/
import Derived.Test.YtghchcipobcpjaaQtTail
import Derived.Deep.DeepCutAuto
import Derived.Deep.RegionHeld3
namespace Go.Proofs.Ytghchcipobcpjaa
open Go.RowKit
set_option linter.unusedVariables false
set_option linter.unusedSimpArgs false

structure Wt where
  i : Int
  t : ByteArray
  r : Int
  g : Int
def wtC (x : Wt) : List Value := [.int .i64 x.i, .string x.t, .int .i64 x.r, .int .i64 x.g]
theorem wtC_len (x : Wt) : (wtC x).length = 4 := rfl
def Wt.sz (x : Wt) : Nat := x.t.size
abbrev RowW (w : World) (v : Value) (l : List Wt) : Prop := RowC 4 wtC w v l
def InW (w : World) (p : Option Addr) (l : List Wt) : Prop := (∀ x ∈ l, x.t.size ≤ maxLen) ∧ InC 4 wtC w p l
theorem InW.below {w w' : World} {p : Option Addr} {l : List Wt} (h : InW w p l) (hb : Below w.heap.size w w') : InW w' p l := ⟨h.1, h.2.below hb⟩
theorem infoW : (Try.prog.info? 50).map (fun i => (i.zero, i.size, i.bytes)) = some (some (.agg #[.int .i64 0, .string ⟨#[]⟩, .int .i64 0, .int .i64 0]), 4, 40) := by kernel_rfl
abbrev OwnW (w : World) (lo hi : Nat) (v : Value) (l : List Wt) : Prop := OwnC 4 50 wtC w lo hi v l
set_option maxRecDepth 100000 in
theorem szWait_any (L : Int) (hL : 0 ≤ L ∧ L ≤ 1048576) (x : Wt) (w : World) (hn : x.sz ≤ 9223372036854775807) :
    Calls Try.prog 41 #[.agg (wtC x).toArray, .int .i64 L] w fun e w' => e = .returned (.int .i64 (if (x.sz : Int) ≤ L then L - (x.sz : Int) else -1)) ∧ Below w.heap.size w w' := by
  obtain ⟨i, t, r, g⟩ := x
  show Calls Try.prog 41 #[.agg #[.int .i64 i, .string t, .int .i64 r, .int .i64 g], .int .i64 L] w _
  have hn' : t.size ≤ 9223372036854775807 := hn
  show Calls Try.prog _ _ _ fun e w' => e = .returned (.int .i64 (if (t.size : Int) ≤ L then L - (t.size : Int) else -1)) ∧ Below w.heap.size w w'
  clear hn
  by_cases h : (t.size : Int) ≤ L
  · rw [if_pos h]
    have h1 : ¬ L - (t.size : Int) < 0 := by omega
    go_enter Try.func41, Try.ntmps41
    go_wp2
    go_ret
    exact ⟨rfl, all_alloc _ _⟩
  · rw [if_neg h]
    have h1 : L - (t.size : Int) < 0 := by omega
    go_enter Try.func41, Try.ntmps41
    go_wp2
    go_ret
    exact ⟨rfl, all_alloc _ _⟩
set_option maxRecDepth 100000 in
set_option maxHeartbeats 1600000 in
theorem szWaitS_any (L : Int) (hL : 0 ≤ L ∧ L ≤ 1048576) (a : Option Addr) (c : Nat) (l : List Wt) (w : World) (hr : InW w a l) :
    Calls Try.prog 16 #[.slice a l.length c, .int .i64 L] w fun x w' => x = .returned (.int .i64 (if (l.length : Int) + csum Wt.sz l ≤ L then L - ((l.length : Int) + csum Wt.sz l) else -1)) ∧ Below w.heap.size w w' := by
  have hn := hr.2.1
  by_cases h : (l.length : Int) ≤ L
  · have h1 : ¬ L - (l.length : Int) < 0 := by omega
    have HR : Hid (∀ W, Below w.heap.size w W → InW W a l) := fun W hW => hr.below hW
    have hpos : Hid (0 ≤ csum Wt.sz l) := csum_pos Wt.sz l
    clear hr
    obtain ⟨V, hV⟩ : ∃ V, Hid ((if (l.length : Int) + csum Wt.sz l ≤ L then L - ((l.length : Int) + csum Wt.sz l) else -1) = V) := ⟨_, show _ = _ from rfl⟩
    rw [hV.out]
    go_enter Try.func16, Try.ntmps16
    go_wp2
    go_loopw [1, 5] (fun t i wr => ∃ (k : Nat) (M : Int), k ≤ l.length ∧ i = .int .i64 k ∧ t = .int .i64 M ∧ (0 ≤ M ∧ M ≤ 1048576) ∧ Hid (M = L - (l.length : Int) - csum Wt.sz (l.take k)) ∧ Below w.heap.size w wr) (fun _ i _ => l.length - (intOf i).toNat)
    case atStart => exact ⟨0, L - (l.length : Int), Nat.zero_le _, rfl, rfl, by omega, (show _ = _ by simp [csum]), Below.refl _ _⟩
    case round =>
      obtain ⟨k, M, hk, rfl, rfl, hM, HM, hbel⟩ := hrel
      by_cases hlt : k < l.length
      · obtain ⟨hz0, _, hcs⟩ := HR.out wr hbel
        obtain ⟨g, o, rfl, l1, q1⟩ := hcs k hlt
        clear hcs
        have hz := hz0 l[k] (List.getElem_mem hlt)
        clear hz0
        unfold maxLen at hz
        have HT : Hid _ := csum_take Wt.sz l k hlt
        have HE : Hid _ := csum_le Wt.sz l (k + 1)
        have HRG : Hid _ := q1
        clear q1
        generalize l[k] = s at HRG HT hz
        have HC : Hid (∀ W : World, Calls Try.prog 41 #[.agg (wtC s).toArray, .int .i64 M] W fun x w' => x = .returned (.int .i64 (if (s.sz : Int) ≤ M then M - (s.sz : Int) else -1)) ∧ Below W.heap.size W w') := fun W => szWait_any M hM s W (by show s.t.size ≤ _; omega)
        clear hz
        generalize s.sz = T at HC HT
        by_cases h5 : (T : Int) ≤ M
        · rw [if_pos h5] at HC
          have h6 : ¬ M - (T : Int) < 0 := by omega
          go_wp2_with (first
            | (refine wpList_load_mid rfl 75 (.tmp 20) rfl g (o + k * 4) rfl (wtC s) _ HRG.out Try.underlying75 rfl (by kernel_rfl) ?_)
            | (go_at_call 41; refine (HC.out _).mono ?_; rintro e w1 ⟨rfl, hb1⟩))
          go_roundw
          case rel => exact ⟨k + 1, M - (T : Int), by omega, by go_num, by go_num, by omega, (show _ = _ by rw [HT.out, HM.out]; omega), keepB hbel (Nat.le_refl _) hb1⟩
          case measure => simp [intOf]; omega
        · rw [if_neg h5] at HC
          go_wp2_with (first
            | (refine wpList_load_mid rfl 75 (.tmp 20) rfl g (o + k * 4) rfl (wtC s) _ HRG.out Try.underlying75 rfl (by kernel_rfl) ?_)
            | (go_at_call 41; refine (HC.out _).mono ?_; rintro e w1 ⟨rfl, hb1⟩))
          go_ret
          have e1 := HM.out
          have e2 := HT.out
          have e3 := HE.out
          have e4 : V = -1 := by rw [← hV.out, if_neg (by omega)]
          exact ⟨by rw [e4]; rfl, keepB hbel (Nat.le_refl _) hb1⟩
      · have hkk : Hid (k = l.length) := (by omega : k = l.length)
        go_wp2
        go_ret
        have e1 := HM.out
        rw [hkk.out, List.take_length] at e1
        have e4 : V = M := by rw [← hV.out, if_pos (by omega)]; omega
        exact ⟨by rw [e4]; rfl, hbel⟩
  · have h1 : L - (l.length : Int) < 0 := by omega
    have hpos := csum_pos Wt.sz l
    rw [if_neg (by omega)]
    clear hr
    go_enter Try.func16, Try.ntmps16
    go_wp2
    go_ret
    exact ⟨rfl, Below.refl _ _⟩
set_option maxRecDepth 100000 in
set_option maxHeartbeats 1600000 in
theorem toWait_any (x : Wt) (w : World) :
    Calls Try.prog 50 #[.agg (wtC x).toArray] w fun e w' => e = .returned (.agg (wtC x).toArray) ∧ Below w.heap.size w w' := by
  obtain ⟨i, t, r, g⟩ := x
  show Calls Try.prog 50 #[.agg #[.int .i64 i, .string t, .int .i64 r, .int .i64 g]] w _
  go_enter Try.func50, Try.ntmps50
  go_wp2
  refine bodyPost_ret (v := .agg #[.int .i64 i, .string t, .int .i64 r, .int .i64 g]) (by simp [results, Try.results50, go_sem]) rfl ⟨rfl, ?_⟩
  repeat (first | (refine Below.setCell ?_ (by simp <;> omega) _) | (refine Below.alloc ?_ (by simp <;> omega) _))
  exact Below.refl _ _
set_option maxRecDepth 100000 in
set_option maxHeartbeats 1600000 in
theorem toWaitS_any (a : Option Addr) (c : Nat) (l : List Wt) (w : World) (hl : l.length ≤ 1048576) (hr : InW w a l) :
    Calls Try.prog 23 #[.slice a l.length c] w fun e w' => ∃ v, e = .returned v ∧ OwnW w' w.heap.size w'.heap.size v l ∧ Below w.heap.size w w' := by
  obtain ⟨i0, hi, hz0, hz1, hz2⟩ := info_parts infoW
  have HR : Hid (∀ W, Below w.heap.size w W → InW W a l) := fun W hW => hr.below hW
  clear hr
  go_enter Try.func23, Try.ntmps23
  go_wp2_with (at_make; refine wpList_make_full _ rfl (.tmp 6) (.tmp 6) 27 rfl w.heap.size 50 i0 (.agg #[.int .i64 0, .string ⟨#[]⟩, .int .i64 0, .int .i64 0]) 4 Try.underlying27 hi hz0 hz1 .i64 .i64 _ _ l.length rfl rfl (by omega) (by omega) (by rw [hz2]; omega) (by unfold maxLen; omega) (Nat.le_refl _) ?_; intro w1 hown1 hgrow1; have hB1 := (Below.refl w.heap.size w).grown hgrow1 (Nat.le_refl _) (fun k e => by cases e); obtain ⟨cur1, hc1, hc2⟩ := rcOwns_block hown1; clear hown1)
  have HO1 : Hid (∃ cur, w1.heap[w.heap.size]? = some (.cells cur 50 (0, 0)) ∧ cur.size = 0 + l.length * 4 ∧ ∀ k (hk : k < 0) (h : k < l.length), w1.rangeAt w.heap.size (0 + k * 4) (wtC l[k])) := by
    show ∃ _, _
    exact ⟨cur1, hc1, by rw [hc2, Nat.zero_add], fun k hk => absurd hk (by omega)⟩
  clear hc1 hc2 hgrow1
  go_loopw [4] (fun i wr => ∃ j : Nat, j ≤ l.length ∧ i = .int .i64 j ∧ Hid (∃ cur, wr.heap[w.heap.size]? = some (.cells cur 50 (0, 0)) ∧ cur.size = 0 + l.length * 4 ∧ ∀ k (hk : k < j) (h : k < l.length), wr.rangeAt w.heap.size (0 + k * 4) (wtC l[k])) ∧ Below w.heap.size w wr) (fun i _ => l.length - (intOf i).toNat)
  case atStart => exact ⟨0, Nat.zero_le _, rfl, HO1.out, hB1⟩
  case round =>
    obtain ⟨j, hj, rfl, HW, hbel⟩ := hrel
    by_cases hlt : j < l.length
    · obtain ⟨g, o, rfl, l1, q1⟩ := (HR.out wr hbel).2.2 j hlt
      have HRG : Hid _ := q1
      clear q1
      have HC : Hid (∀ W : World, Calls Try.prog 50 #[.agg (wtC l[j]).toArray] W fun x w' => x = .returned (.agg (wtC l[j]).toArray) ∧ Below W.heap.size W w') := fun W => toWait_any l[j] W
      have HS : Hid (∀ w2, Below wr.heap.size wr w2 → w2.there w.heap.size (j * 4) 4 ∧ ∃ cur, (w2.setCells w.heap.size (j * 4) (wtC l[j])).heap[w.heap.size]? = some (.cells cur 50 (0, 0)) ∧ cur.size = 0 + l.length * 4 ∧ ∀ k (hk : k < j + 1) (h : k < l.length), (w2.setCells w.heap.size (j * 4) (wtC l[j])).rangeAt w.heap.size (0 + k * 4) (wtC l[k])) := by
        intro w2 hb
        obtain ⟨cur, hg, hs, hk⟩ := HW.out
        have hr : w.heap.size < wr.heap.size := (Array.getElem?_eq_some_iff.1 hg).1
        have key := rcStep ((hb.block _ hr).trans hg) hs hlt (wtC l[j]) rfl
        simp only [Nat.zero_add] at key hk ⊢
        obtain ⟨ht, ⟨cur', g1, g2⟩, g3, g4⟩ := key
        refine ⟨ht, cur', g1, g2, fun k h1 h2 => ?_⟩
        by_cases hkj : k < j
        · exact g4 k (by omega) _ rfl (rcRange_below (hk k hkj h2) hr hb)
        · obtain rfl : k = j := by omega
          exact g3
      clear HW
      generalize l[j] = z at HRG HC HS
      have hload : Hid True := trivial
      go_wp2_with (first
        | (have _ := hload; refine wpList_load_mid rfl 75 (.tmp 18) rfl g (o + j * 4) rfl (wtC z) _ HRG.out Try.underlying75 rfl (by kernel_rfl) ?_; clear hload)
        | (go_at_call 50; refine (HC.out _).mono ?_; rintro e w2 ⟨rfl, hb2⟩; obtain ⟨ht2, hs2⟩ := HS.out w2 hb2; have HT2 : Hid _ := ht2; have HS2 : Hid (∃ _, _) := hs2; clear ht2 hs2)
        | (refine wpList_store_mid rfl 50 (.tmp 21) (.tmp 20) rfl w.heap.size (j * 4) _ rfl rfl HT2.out (by kernel_rfl) (by simp [wtC, Value.oneCell']) ?_; clear HT2))
      go_roundw
      case rel => exact ⟨j + 1, by omega, by go_num, (show ∃ _, _ from HS2.out), rcBelow_setCells w.heap.size (Nat.le_refl _) _ _ _ (keepB hbel (Nat.le_refl _) hb2)⟩
      case measure => simp [intOf]; omega
    · obtain rfl : j = l.length := by omega
      go_wp2
      go_ret
      obtain ⟨cur, hg, hs, hk⟩ := HW.out
      exact ⟨_, rfl, ⟨Nat.le_refl _, .inr ⟨w.heap.size, 0, l.length, cur, rfl, Nat.le_refl _, (Array.getElem?_eq_some_iff.1 hg).1, hg, hs, Nat.le_refl _, fun k hk2 => hk k hk2 hk2⟩⟩, hbel⟩
set_option maxRecDepth 100000 in
set_option maxHeartbeats 1600000 in
theorem eqWait_same (x : Wt) (w : World) :
    Calls Try.prog 58 #[.agg (wtC x).toArray, .agg (wtC x).toArray] w fun e w' => e = .returned (.bool true) ∧ Below w.heap.size w w' := by
  obtain ⟨i, t, r, g⟩ := x
  have e0 : (i != i) = false := by simp
  have e2 : (r != r) = false := by simp
  have e3 : (g != g) = false := by simp
  have hA0 : Hid (Below w.heap.size w _) := keepB (all_alloc w (.cells #[.int .i64 i, .string t, .int .i64 r, .int .i64 g] 50)) (Nat.le_refl _) (all_alloc _ (.cells #[.int .i64 i, .string t, .int .i64 r, .int .i64 g] 50))
  show Calls Try.prog 58 #[.agg #[.int .i64 i, .string t, .int .i64 r, .int .i64 g], .agg #[.int .i64 i, .string t, .int .i64 r, .int .i64 g]] w _
  go_enter Try.func58, Try.ntmps58
  go_wp2
  go_ret
  exact ⟨rfl, hA0.out⟩
set_option maxRecDepth 100000 in
set_option maxHeartbeats 1600000 in
theorem eqWaitS_same (v1 v2 : Value) (l : List Wt) (w : World) (hl : l.length ≤ 1048576) (h1 : RowW w v1 l) (h2 : RowW w v2 l) :
    Calls Try.prog 32 #[v1, v2] w fun e w' => e = .returned (.bool true) ∧ Below w.heap.size w w' := by
  have e0 : ((l.length : Int) != (l.length : Int)) = false := by simp
  have H1 : Hid (∀ W, Below w.heap.size w W → RowW W v1 l) := fun W hW => RowC.below h1 hW
  have H2 : Hid (∀ W, Below w.heap.size w W → RowW W v2 l) := fun W hW => RowC.below h2 hW
  obtain ⟨p1, c1, rfl, _⟩ := h1
  obtain ⟨p2, c2, rfl, _⟩ := h2
  go_enter Try.func32, Try.ntmps32
  go_wp2
  go_loopw [5] (fun i wr => ∃ k : Nat, k ≤ l.length ∧ i = .int .i64 k ∧ Below w.heap.size w wr) (fun i _ => l.length - (intOf i).toNat)
  case atStart => exact ⟨0, Nat.zero_le _, rfl, Below.refl _ _⟩
  case round =>
    obtain ⟨k, hk, rfl, hbel⟩ := hrel
    by_cases hlt : k < l.length
    · obtain ⟨g1, o1, d1, e1, q1⟩ := RowC.at (H1.out wr hbel) k hlt
      obtain ⟨g2, o2, d2, e2, q2⟩ := RowC.at (H2.out wr hbel) k hlt
      cases e1
      cases e2
      have HC : Hid (∀ W : World, Calls Try.prog 58 #[.agg (wtC l[k]).toArray, .agg (wtC l[k]).toArray] W fun x w' => x = .returned (.bool true) ∧ Below W.heap.size W w') := fun W => eqWait_same l[k] W
      have Q1 : Hid _ := q1
      have Q2 : Hid _ := q2
      clear q1 q2
      generalize l[k] = s at HC Q1 Q2
      have hR : Below wr.heap.size wr wr.drew := Below.drew (Below.refl _ _)
      go_upto_region 6 with fail
      refine wp_region_held_drew (S := (fun w' => Below wr.heap.size wr w')) (by kernel_rfl) ?_ (fun hHeld => ?_)
      · (try dsimp only); exact hR
      refine yieldH (i := 0) (v := ?_) rfl (by kernel_rfl) (by kernel_rfl) (by kernel_rfl) (fun _ _ _ h => h) (by rfl) ?_ (by assumption) ?_; rotate_left
      · intro w hSw; (try dsimp only at hSw); go_simp; (try with_reducible rfl)
      try simp only [Act.put, List.setIfInBounds_toArray, List.set_cons_zero, List.set_cons_succ, List.getElem_toArray, List.getElem_cons_succ, List.getElem_cons_zero]
      refine yieldH (i := 1) (v := ?_) rfl (by kernel_rfl) (by kernel_rfl) (by kernel_rfl) (fun _ _ _ h => h) (by rfl) ?_ (by assumption) ?_; rotate_left
      · intro w hSw; (try dsimp only at hSw); go_simp; (try with_reducible rfl)
      try simp only [Act.put, List.setIfInBounds_toArray, List.set_cons_zero, List.set_cons_succ, List.getElem_toArray, List.getElem_cons_succ, List.getElem_cons_zero]
      refine yieldH (i := 2) (v := ?_) rfl (by kernel_rfl) (by kernel_rfl) (by kernel_rfl) (fun _ _ _ h => h) (by rfl) ?_ (by assumption) ?_; rotate_left
      · intro w hSw; (try dsimp only at hSw); go_simp; (try with_reducible rfl)
      try simp only [Act.put, List.setIfInBounds_toArray, List.set_cons_zero, List.set_cons_succ, List.getElem_toArray, List.getElem_cons_succ, List.getElem_cons_zero]
      refine yieldH (i := 3) (v := .agg (wtC s).toArray) rfl (by kernel_rfl) (by kernel_rfl) (by kernel_rfl) (fun _ _ _ h => h) (by rfl) (fun W hW => rcExec_load 50 (.tmp 19) rfl g1 (o1 + k * 4) rfl (wtC s) _ (Q1.out W hW) Try.underlying50 rfl (by kernel_rfl)) (by assumption) ?_
      try simp only [Act.put, List.setIfInBounds_toArray, List.set_cons_zero, List.set_cons_succ, List.getElem_toArray, List.getElem_cons_succ, List.getElem_cons_zero]
      refine yieldH (i := 4) (v := ?_) rfl (by kernel_rfl) (by kernel_rfl) (by kernel_rfl) (fun _ _ _ h => h) (by rfl) ?_ (by assumption) ?_; rotate_left
      · intro w hSw; (try dsimp only at hSw); go_simp; (try with_reducible rfl)
      try simp only [Act.put, List.setIfInBounds_toArray, List.set_cons_zero, List.set_cons_succ, List.getElem_toArray, List.getElem_cons_succ, List.getElem_cons_zero]
      refine yieldH (i := 5) (v := ?_) rfl (by kernel_rfl) (by kernel_rfl) (by kernel_rfl) (fun _ _ _ h => h) (by rfl) ?_ (by assumption) ?_; rotate_left
      · intro w hSw; (try dsimp only at hSw); go_simp; (try with_reducible rfl)
      try simp only [Act.put, List.setIfInBounds_toArray, List.set_cons_zero, List.set_cons_succ, List.getElem_toArray, List.getElem_cons_succ, List.getElem_cons_zero]
      refine yieldH (i := 6) (v := ?_) rfl (by kernel_rfl) (by kernel_rfl) (by kernel_rfl) (fun _ _ _ h => h) (by rfl) ?_ (by assumption) ?_; rotate_left
      · intro w hSw; (try dsimp only at hSw); go_simp; (try with_reducible rfl)
      try simp only [Act.put, List.setIfInBounds_toArray, List.set_cons_zero, List.set_cons_succ, List.getElem_toArray, List.getElem_cons_succ, List.getElem_cons_zero]
      refine yieldH (i := 7) (v := .agg (wtC s).toArray) rfl (by kernel_rfl) (by kernel_rfl) (by kernel_rfl) (fun _ _ _ h => h) (by rfl) (fun W hW => rcExec_load 50 (.tmp 23) rfl g2 (o2 + k * 4) rfl (wtC s) _ (Q2.out W hW) Try.underlying50 rfl (by kernel_rfl)) (by assumption) ?_
      try simp only [Act.put, List.setIfInBounds_toArray, List.set_cons_zero, List.set_cons_succ, List.getElem_toArray, List.getElem_cons_succ, List.getElem_cons_zero]
      refine wpAnyH_ready (rs := [8]) (by kernel_rfl) (by simp) ?_
      refine AllReadyH.cons rfl (fun K hK => ?_) AllReadyH.nil
      go_simp
      go_at_call 58; refine (HC.out _).mono ?_; rintro e2 w2 ⟨rfl, hb2⟩; have s2 : Below wr.heap.size wr w2 := keepB hR (Nat.le_refl _) hb2
      dsimp only
      refine hK.out _ _ ?_ (fun hHeld => ?_)
      · (try dsimp only); exact s2
      clear hK K
      try simp only [Act.put, List.setIfInBounds_toArray, List.set_cons_zero, List.set_cons_succ, List.getElem_toArray, List.getElem_cons_succ, List.getElem_cons_zero]
      refine yieldH (i := 9) (v := ?_) rfl (by kernel_rfl) (by kernel_rfl) (by kernel_rfl) (fun _ _ _ h => h) (by rfl) ?_ (by assumption) ?_; rotate_left
      · intro w hSw; (try dsimp only at hSw); go_simp; (try with_reducible rfl)
      try simp only [Act.put, List.setIfInBounds_toArray, List.set_cons_zero, List.set_cons_succ, List.getElem_toArray, List.getElem_cons_succ, List.getElem_cons_zero]
      refine wpAnyH_done (by kernel_rfl) ?_ _
      go_wp2
      go_roundw
      case rel => exact ⟨k + 1, by omega, by go_num, keepB hbel (Nat.le_refl _) s2⟩
      case measure => simp [intOf]; omega
    · go_wp2
      go_ret
      exact ⟨rfl, hbel⟩
end Go.Proofs.Ytghchcipobcpjaa
