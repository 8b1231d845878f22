/- ROWS OF Done: counted, copied and held against each other by the law itself. Written by mkrec.py. -/
import Derived.Test.YtghchcipobcpjaaQtTail
import Derived.Deep.DeepCutAuto
import Derived.Deep.RegionHeld3
namespace Go.Proofs.Ytghchcipobcpjaa
open Go.RowKit
set_option linter.unusedVariables false
set_option linter.unusedSimpArgs false

structure Dn where
  i : Int
  a : ByteArray
def dnC (x : Dn) : List Value := [.int .i64 x.i, .string x.a]
theorem dnC_len (x : Dn) : (dnC x).length = 2 := rfl
def Dn.sz (x : Dn) : Nat := x.a.size
abbrev RowD (w : World) (v : Value) (l : List Dn) : Prop := RowC 2 dnC w v l
def InD (w : World) (p : Option Addr) (l : List Dn) : Prop := (∀ x ∈ l, x.a.size ≤ maxLen) ∧ InC 2 dnC w p l
theorem InD.below {w w' : World} {p : Option Addr} {l : List Dn} (h : InD w p l) (hb : Below w.heap.size w w') : InD w' p l := ⟨h.1, h.2.below hb⟩
theorem infoD : (Try.prog.info? 69).map (fun i => (i.zero, i.size, i.bytes)) = some (some (.agg #[.int .i64 0, .string ⟨#[]⟩]), 2, 24) := by kernel_rfl
abbrev OwnD (w : World) (lo hi : Nat) (v : Value) (l : List Dn) : Prop := OwnC 2 69 dnC w lo hi v l
set_option maxRecDepth 100000 in
theorem szDone_any (L : Int) (hL : 0 ≤ L ∧ L ≤ 1048576) (x : Dn) (w : World) (hn : x.sz ≤ 9223372036854775807) :
    Calls Try.prog 42 #[.agg (dnC x).toArray, .int .i64 L] w fun e w' => e = .returned (.int .i64 (if (x.sz : Int) ≤ L then L - (x.sz : Int) else -1)) ∧ Below w.heap.size w w' := by
  obtain ⟨i, a⟩ := x
  show Calls Try.prog 42 #[.agg #[.int .i64 i, .string a], .int .i64 L] w _
  have hn' : a.size ≤ 9223372036854775807 := hn
  show Calls Try.prog _ _ _ fun e w' => e = .returned (.int .i64 (if (a.size : Int) ≤ L then L - (a.size : Int) else -1)) ∧ Below w.heap.size w w'
  clear hn
  by_cases h : (a.size : Int) ≤ L
  · rw [if_pos h]
    have h1 : ¬ L - (a.size : Int) < 0 := by omega
    go_enter Try.func42, Try.ntmps42
    go_wp2
    go_ret
    exact ⟨rfl, all_alloc _ _⟩
  · rw [if_neg h]
    have h1 : L - (a.size : Int) < 0 := by omega
    go_enter Try.func42, Try.ntmps42
    go_wp2
    go_ret
    exact ⟨rfl, all_alloc _ _⟩
set_option maxRecDepth 100000 in
set_option maxHeartbeats 1600000 in
theorem szDoneS_any (L : Int) (hL : 0 ≤ L ∧ L ≤ 1048576) (a : Option Addr) (c : Nat) (l : List Dn) (w : World) (hr : InD w a l) :
    Calls Try.prog 17 #[.slice a l.length c, .int .i64 L] w fun x w' => x = .returned (.int .i64 (if (l.length : Int) + csum Dn.sz l ≤ L then L - ((l.length : Int) + csum Dn.sz l) else -1)) ∧ Below w.heap.size w w' := by
  have hn := hr.2.1
  by_cases h : (l.length : Int) ≤ L
  · have h1 : ¬ L - (l.length : Int) < 0 := by omega
    have HR : Hid (∀ W, Below w.heap.size w W → InD W a l) := fun W hW => hr.below hW
    have hpos : Hid (0 ≤ csum Dn.sz l) := csum_pos Dn.sz l
    clear hr
    obtain ⟨V, hV⟩ : ∃ V, Hid ((if (l.length : Int) + csum Dn.sz l ≤ L then L - ((l.length : Int) + csum Dn.sz l) else -1) = V) := ⟨_, show _ = _ from rfl⟩
    rw [hV.out]
    go_enter Try.func17, Try.ntmps17
    go_wp2
    go_loopw [1, 5] (fun t i wr => ∃ (k : Nat) (M : Int), k ≤ l.length ∧ i = .int .i64 k ∧ t = .int .i64 M ∧ (0 ≤ M ∧ M ≤ 1048576) ∧ Hid (M = L - (l.length : Int) - csum Dn.sz (l.take k)) ∧ Below w.heap.size w wr) (fun _ i _ => l.length - (intOf i).toNat)
    case atStart => exact ⟨0, L - (l.length : Int), Nat.zero_le _, rfl, rfl, by omega, (show _ = _ by simp [csum]), Below.refl _ _⟩
    case round =>
      obtain ⟨k, M, hk, rfl, rfl, hM, HM, hbel⟩ := hrel
      by_cases hlt : k < l.length
      · obtain ⟨hz0, _, hcs⟩ := HR.out wr hbel
        obtain ⟨g, o, rfl, l1, q1⟩ := hcs k hlt
        clear hcs
        have hz := hz0 l[k] (List.getElem_mem hlt)
        clear hz0
        unfold maxLen at hz
        have HT : Hid _ := csum_take Dn.sz l k hlt
        have HE : Hid _ := csum_le Dn.sz l (k + 1)
        have HRG : Hid _ := q1
        clear q1
        generalize l[k] = s at HRG HT hz
        have HC : Hid (∀ W : World, Calls Try.prog 42 #[.agg (dnC s).toArray, .int .i64 M] W fun x w' => x = .returned (.int .i64 (if (s.sz : Int) ≤ M then M - (s.sz : Int) else -1)) ∧ Below W.heap.size W w') := fun W => szDone_any M hM s W (by show s.a.size ≤ _; omega)
        clear hz
        generalize s.sz = T at HC HT
        by_cases h5 : (T : Int) ≤ M
        · rw [if_pos h5] at HC
          have h6 : ¬ M - (T : Int) < 0 := by omega
          go_wp2_with (first
            | (refine wpList_load_mid rfl 77 (.tmp 20) rfl g (o + k * 2) rfl (dnC s) _ HRG.out Try.underlying77 rfl (by kernel_rfl) ?_)
            | (go_at_call 42; refine (HC.out _).mono ?_; rintro e w1 ⟨rfl, hb1⟩))
          go_roundw
          case rel => exact ⟨k + 1, M - (T : Int), by omega, by go_num, by go_num, by omega, (show _ = _ by rw [HT.out, HM.out]; omega), keepB hbel (Nat.le_refl _) hb1⟩
          case measure => simp [intOf]; omega
        · rw [if_neg h5] at HC
          go_wp2_with (first
            | (refine wpList_load_mid rfl 77 (.tmp 20) rfl g (o + k * 2) rfl (dnC s) _ HRG.out Try.underlying77 rfl (by kernel_rfl) ?_)
            | (go_at_call 42; refine (HC.out _).mono ?_; rintro e w1 ⟨rfl, hb1⟩))
          go_ret
          have e1 := HM.out
          have e2 := HT.out
          have e3 := HE.out
          have e4 : V = -1 := by rw [← hV.out, if_neg (by omega)]
          exact ⟨by rw [e4]; rfl, keepB hbel (Nat.le_refl _) hb1⟩
      · have hkk : Hid (k = l.length) := (by omega : k = l.length)
        go_wp2
        go_ret
        have e1 := HM.out
        rw [hkk.out, List.take_length] at e1
        have e4 : V = M := by rw [← hV.out, if_pos (by omega)]; omega
        exact ⟨by rw [e4]; rfl, hbel⟩
  · have h1 : L - (l.length : Int) < 0 := by omega
    have hpos := csum_pos Dn.sz l
    rw [if_neg (by omega)]
    clear hr
    go_enter Try.func17, Try.ntmps17
    go_wp2
    go_ret
    exact ⟨rfl, Below.refl _ _⟩
set_option maxRecDepth 100000 in
set_option maxHeartbeats 1600000 in
theorem toDone_any (x : Dn) (w : World) :
    Calls Try.prog 51 #[.agg (dnC x).toArray] w fun e w' => e = .returned (.agg (dnC x).toArray) ∧ Below w.heap.size w w' := by
  obtain ⟨i, a⟩ := x
  show Calls Try.prog 51 #[.agg #[.int .i64 i, .string a]] w _
  go_enter Try.func51, Try.ntmps51
  go_wp2
  refine bodyPost_ret (v := .agg #[.int .i64 i, .string a]) (by simp [results, Try.results51, go_sem]) rfl ⟨rfl, ?_⟩
  repeat (first | (refine Below.setCell ?_ (by simp <;> omega) _) | (refine Below.alloc ?_ (by simp <;> omega) _))
  exact Below.refl _ _
set_option maxRecDepth 100000 in
set_option maxHeartbeats 1600000 in
theorem toDoneS_any (a : Option Addr) (c : Nat) (l : List Dn) (w : World) (hl : l.length ≤ 1048576) (hr : InD w a l) :
    Calls Try.prog 24 #[.slice a l.length c] w fun e w' => ∃ v, e = .returned v ∧ OwnD w' w.heap.size w'.heap.size v l ∧ Below w.heap.size w w' := by
  obtain ⟨i0, hi, hz0, hz1, hz2⟩ := info_parts infoD
  have HR : Hid (∀ W, Below w.heap.size w W → InD W a l) := fun W hW => hr.below hW
  clear hr
  go_enter Try.func24, Try.ntmps24
  go_wp2_with (at_make; refine wpList_make_full _ rfl (.tmp 6) (.tmp 6) 28 rfl w.heap.size 69 i0 (.agg #[.int .i64 0, .string ⟨#[]⟩]) 2 Try.underlying28 hi hz0 hz1 .i64 .i64 _ _ l.length rfl rfl (by omega) (by omega) (by rw [hz2]; omega) (by unfold maxLen; omega) (Nat.le_refl _) ?_; intro w1 hown1 hgrow1; have hB1 := (Below.refl w.heap.size w).grown hgrow1 (Nat.le_refl _) (fun k e => by cases e); obtain ⟨cur1, hc1, hc2⟩ := rcOwns_block hown1; clear hown1)
  have HO1 : Hid (∃ cur, w1.heap[w.heap.size]? = some (.cells cur 69 (0, 0)) ∧ cur.size = 0 + l.length * 2 ∧ ∀ k (hk : k < 0) (h : k < l.length), w1.rangeAt w.heap.size (0 + k * 2) (dnC l[k])) := by
    show ∃ _, _
    exact ⟨cur1, hc1, by rw [hc2, Nat.zero_add], fun k hk => absurd hk (by omega)⟩
  clear hc1 hc2 hgrow1
  go_loopw [4] (fun i wr => ∃ j : Nat, j ≤ l.length ∧ i = .int .i64 j ∧ Hid (∃ cur, wr.heap[w.heap.size]? = some (.cells cur 69 (0, 0)) ∧ cur.size = 0 + l.length * 2 ∧ ∀ k (hk : k < j) (h : k < l.length), wr.rangeAt w.heap.size (0 + k * 2) (dnC l[k])) ∧ Below w.heap.size w wr) (fun i _ => l.length - (intOf i).toNat)
  case atStart => exact ⟨0, Nat.zero_le _, rfl, HO1.out, hB1⟩
  case round =>
    obtain ⟨j, hj, rfl, HW, hbel⟩ := hrel
    by_cases hlt : j < l.length
    · obtain ⟨g, o, rfl, l1, q1⟩ := (HR.out wr hbel).2.2 j hlt
      have HRG : Hid _ := q1
      clear q1
      have HC : Hid (∀ W : World, Calls Try.prog 51 #[.agg (dnC l[j]).toArray] W fun x w' => x = .returned (.agg (dnC l[j]).toArray) ∧ Below W.heap.size W w') := fun W => toDone_any l[j] W
      have HS : Hid (∀ w2, Below wr.heap.size wr w2 → w2.there w.heap.size (j * 2) 2 ∧ ∃ cur, (w2.setCells w.heap.size (j * 2) (dnC l[j])).heap[w.heap.size]? = some (.cells cur 69 (0, 0)) ∧ cur.size = 0 + l.length * 2 ∧ ∀ k (hk : k < j + 1) (h : k < l.length), (w2.setCells w.heap.size (j * 2) (dnC l[j])).rangeAt w.heap.size (0 + k * 2) (dnC l[k])) := by
        intro w2 hb
        obtain ⟨cur, hg, hs, hk⟩ := HW.out
        have hr : w.heap.size < wr.heap.size := (Array.getElem?_eq_some_iff.1 hg).1
        have key := rcStep ((hb.block _ hr).trans hg) hs hlt (dnC l[j]) rfl
        simp only [Nat.zero_add] at key hk ⊢
        obtain ⟨ht, ⟨cur', g1, g2⟩, g3, g4⟩ := key
        refine ⟨ht, cur', g1, g2, fun k h1 h2 => ?_⟩
        by_cases hkj : k < j
        · exact g4 k (by omega) _ rfl (rcRange_below (hk k hkj h2) hr hb)
        · obtain rfl : k = j := by omega
          exact g3
      clear HW
      generalize l[j] = z at HRG HC HS
      have hload : Hid True := trivial
      go_wp2_with (first
        | (have _ := hload; refine wpList_load_mid rfl 77 (.tmp 18) rfl g (o + j * 2) rfl (dnC z) _ HRG.out Try.underlying77 rfl (by kernel_rfl) ?_; clear hload)
        | (go_at_call 51; refine (HC.out _).mono ?_; rintro e w2 ⟨rfl, hb2⟩; obtain ⟨ht2, hs2⟩ := HS.out w2 hb2; have HT2 : Hid _ := ht2; have HS2 : Hid (∃ _, _) := hs2; clear ht2 hs2)
        | (refine wpList_store_mid rfl 69 (.tmp 21) (.tmp 20) rfl w.heap.size (j * 2) _ rfl rfl HT2.out (by kernel_rfl) (by simp [dnC, Value.oneCell']) ?_; clear HT2))
      go_roundw
      case rel => exact ⟨j + 1, by omega, by go_num, (show ∃ _, _ from HS2.out), rcBelow_setCells w.heap.size (Nat.le_refl _) _ _ _ (keepB hbel (Nat.le_refl _) hb2)⟩
      case measure => simp [intOf]; omega
    · obtain rfl : j = l.length := by omega
      go_wp2
      go_ret
      obtain ⟨cur, hg, hs, hk⟩ := HW.out
      exact ⟨_, rfl, ⟨Nat.le_refl _, .inr ⟨w.heap.size, 0, l.length, cur, rfl, Nat.le_refl _, (Array.getElem?_eq_some_iff.1 hg).1, hg, hs, Nat.le_refl _, fun k hk2 => hk k hk2 hk2⟩⟩, hbel⟩
set_option maxRecDepth 100000 in
set_option maxHeartbeats 1600000 in
theorem eqDone_same (x : Dn) (w : World) :
    Calls Try.prog 59 #[.agg (dnC x).toArray, .agg (dnC x).toArray] w fun e w' => e = .returned (.bool true) ∧ Below w.heap.size w w' := by
  obtain ⟨i, a⟩ := x
  have e0 : (i != i) = false := by simp
  have hA0 : Hid (Below w.heap.size w _) := keepB (all_alloc w (.cells #[.int .i64 i, .string a] 69)) (Nat.le_refl _) (all_alloc _ (.cells #[.int .i64 i, .string a] 69))
  show Calls Try.prog 59 #[.agg #[.int .i64 i, .string a], .agg #[.int .i64 i, .string a]] w _
  go_enter Try.func59, Try.ntmps59
  go_wp2
  go_ret
  exact ⟨rfl, hA0.out⟩
set_option maxRecDepth 100000 in
set_option maxHeartbeats 1600000 in
theorem eqDoneS_same (v1 v2 : Value) (l : List Dn) (w : World) (hl : l.length ≤ 1048576) (h1 : RowD w v1 l) (h2 : RowD w v2 l) :
    Calls Try.prog 33 #[v1, v2] w fun e w' => e = .returned (.bool true) ∧ Below w.heap.size w w' := by
  have e0 : ((l.length : Int) != (l.length : Int)) = false := by simp
  have H1 : Hid (∀ W, Below w.heap.size w W → RowD W v1 l) := fun W hW => RowC.below h1 hW
  have H2 : Hid (∀ W, Below w.heap.size w W → RowD W v2 l) := fun W hW => RowC.below h2 hW
  obtain ⟨p1, c1, rfl, _⟩ := h1
  obtain ⟨p2, c2, rfl, _⟩ := h2
  go_enter Try.func33, Try.ntmps33
  go_wp2
  go_loopw [5] (fun i wr => ∃ k : Nat, k ≤ l.length ∧ i = .int .i64 k ∧ Below w.heap.size w wr) (fun i _ => l.length - (intOf i).toNat)
  case atStart => exact ⟨0, Nat.zero_le _, rfl, Below.refl _ _⟩
  case round =>
    obtain ⟨k, hk, rfl, hbel⟩ := hrel
    by_cases hlt : k < l.length
    · obtain ⟨g1, o1, d1, e1, q1⟩ := RowC.at (H1.out wr hbel) k hlt
      obtain ⟨g2, o2, d2, e2, q2⟩ := RowC.at (H2.out wr hbel) k hlt
      cases e1
      cases e2
      have HC : Hid (∀ W : World, Calls Try.prog 59 #[.agg (dnC l[k]).toArray, .agg (dnC l[k]).toArray] W fun x w' => x = .returned (.bool true) ∧ Below W.heap.size W w') := fun W => eqDone_same l[k] W
      have Q1 : Hid _ := q1
      have Q2 : Hid _ := q2
      clear q1 q2
      generalize l[k] = s at HC Q1 Q2
      have hR : Below wr.heap.size wr wr.drew := Below.drew (Below.refl _ _)
      go_upto_region 6 with fail
      refine wp_region_held_drew (S := (fun w' => Below wr.heap.size wr w')) (by kernel_rfl) ?_ (fun hHeld => ?_)
      · (try dsimp only); exact hR
      refine yieldH (i := 0) (v := ?_) rfl (by kernel_rfl) (by kernel_rfl) (by kernel_rfl) (fun _ _ _ h => h) (by rfl) ?_ (by assumption) ?_; rotate_left
      · intro w hSw; (try dsimp only at hSw); go_simp; (try with_reducible rfl)
      try simp only [Act.put, List.setIfInBounds_toArray, List.set_cons_zero, List.set_cons_succ, List.getElem_toArray, List.getElem_cons_succ, List.getElem_cons_zero]
      refine yieldH (i := 1) (v := ?_) rfl (by kernel_rfl) (by kernel_rfl) (by kernel_rfl) (fun _ _ _ h => h) (by rfl) ?_ (by assumption) ?_; rotate_left
      · intro w hSw; (try dsimp only at hSw); go_simp; (try with_reducible rfl)
      try simp only [Act.put, List.setIfInBounds_toArray, List.set_cons_zero, List.set_cons_succ, List.getElem_toArray, List.getElem_cons_succ, List.getElem_cons_zero]
      refine yieldH (i := 2) (v := ?_) rfl (by kernel_rfl) (by kernel_rfl) (by kernel_rfl) (fun _ _ _ h => h) (by rfl) ?_ (by assumption) ?_; rotate_left
      · intro w hSw; (try dsimp only at hSw); go_simp; (try with_reducible rfl)
      try simp only [Act.put, List.setIfInBounds_toArray, List.set_cons_zero, List.set_cons_succ, List.getElem_toArray, List.getElem_cons_succ, List.getElem_cons_zero]
      refine yieldH (i := 3) (v := .agg (dnC s).toArray) rfl (by kernel_rfl) (by kernel_rfl) (by kernel_rfl) (fun _ _ _ h => h) (by rfl) (fun W hW => rcExec_load 69 (.tmp 19) rfl g1 (o1 + k * 2) rfl (dnC s) _ (Q1.out W hW) Try.underlying69 rfl (by kernel_rfl)) (by assumption) ?_
      try simp only [Act.put, List.setIfInBounds_toArray, List.set_cons_zero, List.set_cons_succ, List.getElem_toArray, List.getElem_cons_succ, List.getElem_cons_zero]
      refine yieldH (i := 4) (v := ?_) rfl (by kernel_rfl) (by kernel_rfl) (by kernel_rfl) (fun _ _ _ h => h) (by rfl) ?_ (by assumption) ?_; rotate_left
      · intro w hSw; (try dsimp only at hSw); go_simp; (try with_reducible rfl)
      try simp only [Act.put, List.setIfInBounds_toArray, List.set_cons_zero, List.set_cons_succ, List.getElem_toArray, List.getElem_cons_succ, List.getElem_cons_zero]
      refine yieldH (i := 5) (v := ?_) rfl (by kernel_rfl) (by kernel_rfl) (by kernel_rfl) (fun _ _ _ h => h) (by rfl) ?_ (by assumption) ?_; rotate_left
      · intro w hSw; (try dsimp only at hSw); go_simp; (try with_reducible rfl)
      try simp only [Act.put, List.setIfInBounds_toArray, List.set_cons_zero, List.set_cons_succ, List.getElem_toArray, List.getElem_cons_succ, List.getElem_cons_zero]
      refine yieldH (i := 6) (v := ?_) rfl (by kernel_rfl) (by kernel_rfl) (by kernel_rfl) (fun _ _ _ h => h) (by rfl) ?_ (by assumption) ?_; rotate_left
      · intro w hSw; (try dsimp only at hSw); go_simp; (try with_reducible rfl)
      try simp only [Act.put, List.setIfInBounds_toArray, List.set_cons_zero, List.set_cons_succ, List.getElem_toArray, List.getElem_cons_succ, List.getElem_cons_zero]
      refine yieldH (i := 7) (v := .agg (dnC s).toArray) rfl (by kernel_rfl) (by kernel_rfl) (by kernel_rfl) (fun _ _ _ h => h) (by rfl) (fun W hW => rcExec_load 69 (.tmp 23) rfl g2 (o2 + k * 2) rfl (dnC s) _ (Q2.out W hW) Try.underlying69 rfl (by kernel_rfl)) (by assumption) ?_
      try simp only [Act.put, List.setIfInBounds_toArray, List.set_cons_zero, List.set_cons_succ, List.getElem_toArray, List.getElem_cons_succ, List.getElem_cons_zero]
      refine wpAnyH_ready (rs := [8]) (by kernel_rfl) (by simp) ?_
      refine AllReadyH.cons rfl (fun K hK => ?_) AllReadyH.nil
      go_simp
      go_at_call 59; refine (HC.out _).mono ?_; rintro e2 w2 ⟨rfl, hb2⟩; have s2 : Below wr.heap.size wr w2 := keepB hR (Nat.le_refl _) hb2
      dsimp only
      refine hK.out _ _ ?_ (fun hHeld => ?_)
      · (try dsimp only); exact s2
      clear hK K
      try simp only [Act.put, List.setIfInBounds_toArray, List.set_cons_zero, List.set_cons_succ, List.getElem_toArray, List.getElem_cons_succ, List.getElem_cons_zero]
      refine yieldH (i := 9) (v := ?_) rfl (by kernel_rfl) (by kernel_rfl) (by kernel_rfl) (fun _ _ _ h => h) (by rfl) ?_ (by assumption) ?_; rotate_left
      · intro w hSw; (try dsimp only at hSw); go_simp; (try with_reducible rfl)
      try simp only [Act.put, List.setIfInBounds_toArray, List.set_cons_zero, List.set_cons_succ, List.getElem_toArray, List.getElem_cons_succ, List.getElem_cons_zero]
      refine wpAnyH_done (by kernel_rfl) ?_ _
      go_wp2
      go_roundw
      case rel => exact ⟨k + 1, by omega, by go_num, keepB hbel (Nat.le_refl _) s2⟩
      case measure => simp [intOf]; omega
    · go_wp2
      go_ret
      exact ⟨rfl, hbel⟩
end Go.Proofs.Ytghchcipobcpjaa
