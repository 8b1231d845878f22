/- NOTES that are right, and seats that rise: the program's. Written by mksegi.py. -/
import Derived.Test.YtklpaleghanhhaaQdOwnM
import Derived.Test.YtklpaleghanhhaaQdSegE
import Derived.Test.YtklpaleghanhhaaQdOutS
import Derived.Test.YtklpaleghanhhaaQdNewS
import Derived.Deep.DeepCutAuto
namespace Go.Proofs.Ytklpaleghanhhaa
open Go.RowKit
set_option linter.unusedVariables false
set_option linter.unusedSimpArgs false

/-- a station at its place, and whether it is up -/
def seC (s : Stn) (u : Vs) (b : Bool) : List Value := [.int .i64 s.ad, .int .i64 s.bo, .int .i64 s.st, .int .i64 s.s.g, .int .i64 s.s.o, .int .i64 s.s.b, .int .i64 s.s.h, .int .i64 s.t.g, .int .i64 s.t.o, .int .i64 s.t.b, .int .i64 s.t.h, .int .i64 s.qu, .int .i64 s.tr, .int .i64 s.he, .int .i64 s.po, u.a, u.b, u.c, u.d, .bool b]
set_option maxRecDepth 100000 in
set_option maxHeartbeats 1600000 in
theorem address_any (s : Stn) (u : Vs) (b : Bool) (w : World) : Calls Try.prog 151 #[.agg (seC s u b).toArray] w fun e w' => e = .returned (.int .i64 s.ad) ∧ Below w.heap.size w w' := by
  unfold seC
  obtain ⟨a, e, f, d⟩ := u
  have hA0 : Hid (Below w.heap.size w _) := all_alloc w (.cells #[.int .i64 s.ad, .int .i64 s.bo, .int .i64 s.st, .int .i64 s.s.g, .int .i64 s.s.o, .int .i64 s.s.b, .int .i64 s.s.h, .int .i64 s.t.g, .int .i64 s.t.o, .int .i64 s.t.b, .int .i64 s.t.h, .int .i64 s.qu, .int .i64 s.tr, .int .i64 s.he, .int .i64 s.po, a, e, f, d, .bool b] 145)
  go_enter Try.func151, Try.ntmps151
  go_wp2
  go_ret
  exact ⟨rfl, hA0.out⟩
theorem infoSeat : (Try.prog.info? 145).map (·.size) = some 20 := by kernel_rfl
set_option maxRecDepth 100000 in
set_option maxHeartbeats 3200000 in
theorem rises_any (g c : Nat) (cs : List (Stn × Vs × Bool)) (w : World) (hl : cs.length ≤ 1000) (hg : g < w.heap.size)
    (h : ∀ k (hk : k < cs.length), w.rangeAt g (k * 20) (seC cs[k].1 cs[k].2.1 cs[k].2.2) ∧ (seC cs[k].1 cs[k].2.1 cs[k].2.2).toArray.all (·.oneCell') = true) :
    Calls Try.prog 99 #[.slice (some ⟨g, 0, none⟩) cs.length c] w fun e w' => e = .returned (.bool (riseQ (cs.map (·.1.ad)))) ∧ Below w.heap.size w w' := by
  have hal : (cs.map (·.1.ad)).length = cs.length := List.length_map _
  obtain ⟨A, hA⟩ : ∃ A, A = cs.map (·.1.ad) := ⟨_, rfl⟩
  have HR : Hid (∀ W, Below w.heap.size w W → ∀ k (hk : k < cs.length) (hk' : k < A.length), ∃ L : List Value, W.rangeAt g (k * 20) L ∧ L.length = 20 ∧ L.toArray.all (·.oneCell') = true ∧
      (∀ W : World, (method 304 145 (.agg L.toArray) "loop.example/g00556/impl.address").run Try.prog W = .ok (151, .agg L.toArray) W) ∧
      (∀ W : World, Calls Try.prog 151 #[.agg L.toArray] W fun e w' => e = .returned (.int .i64 A[k]) ∧ Below W.heap.size W w')) := fun W hW k hk hk' => by
    refine ⟨seC cs[k].1 cs[k].2.1 cs[k].2.2, range_below (h k hk).1 hg hW, rfl, (h k hk).2, fun W => by generalize cs[k].1 = s; generalize cs[k].2.1 = u; generalize cs[k].2.2 = b; kernel_rfl, fun W => ?_⟩
    subst hA
    rw [List.getElem_map]
    exact address_any cs[k].1 cs[k].2.1 cs[k].2.2 W
  have HCF : ∀ (W : World) (V : Value), (callFunc 151 #[V]).run Try.prog W = .ok (.enter 151 #[V]) W := fun W V => by kernel_rfl
  rw [← hA] at hal ⊢
  clear h hA
  generalize cs.length = n at *
  obtain ⟨B, hB⟩ : ∃ B, Hid (riseQ A = B) := ⟨_, show _ = _ from rfl⟩
  rw [hB.out]
  go_enter Try.func99, Try.ntmps99
  go_wp2
  go_loopw [3, 8] (fun l i wr => ∃ k : Nat, k ≤ n ∧ i = .int .i64 k ∧ l = .int .i64 ((0 :: A).getD k 0) ∧ Hid ((List.range k).all (riseF A) = true) ∧ Below w.heap.size w wr) (fun _ i _ => n - (intOf i).toNat)
  case atStart => exact ⟨0, Nat.zero_le _, rfl, rfl, rfl, Below.refl _ _⟩
  case round =>
    obtain ⟨k, hk, rfl, rfl, HA, hbel⟩ := hrel
    by_cases hlt : k < n
    · have hk' : k < A.length := by omega
      obtain ⟨L, hr, hL, h1c, HMT, hadr⟩ := HR.out wr hbel k hlt hk'
      have HRG : Hid _ := hr
      have HADR : Hid _ := hadr
      have HN : Hid (riseF A k = false → B = false) := fun h => by rw [← hB.out]; exact all_range_no hk' h
      have HY : Hid (riseF A k = true → (List.range (k + 1)).all (riseF A) = true) := fun h => all_range_more HA.out h
      have HL : Hid ((0 :: A).getD (k + 1) 0 = A[k]) := last_succ A k hk'
      rw [riseF_at A k hk'] at HN HY
      clear hr hadr
      generalize (0 :: A).getD k 0 = La at HN HY ⊢
      generalize A[k] = z at HADR HN HY HL
      have hload : Hid True := trivial
      go_upto_region 5 with (first
        | (have _ := hload; refine wpList_load_mid rfl 145 (.tmp 10) rfl g (k * 20) rfl L _ HRG.out Try.underlying145 rfl (by rw [hL]; exact infoSeat) ?_; clear hload)
        | (refine wpList_store_row rfl 145 (.tmp 5) (.tmp 11) rfl wr.heap.size L.toArray rfl rfl _ _ (heap_alloc_new wr _) (by simp only [List.size_toArray, hL]; exact infoSeat) (by simp only [List.size_toArray, hL]; rfl) h1c ?_))
      have hX1 : Hid _ := setRow_heap _ wr.heap.size _ L.toArray _ _ (heap_alloc_new wr (.cells #[.int .i64 0, .int .i64 0, .int .i64 0, .int .i64 0, .int .i64 0, .int .i64 0, .int .i64 0, .int .i64 0, .int .i64 0, .int .i64 0, .int .i64 0, .int .i64 0, .int .i64 0, .int .i64 0, .int .i64 0, .slice none 0 0, .slice none 0 0, .slice none 0 0, .slice none 0 0, .bool false] 145))
      have hb1 : Below wr.heap.size wr ((wr.alloc (.cells #[.int .i64 0, .int .i64 0, .int .i64 0, .int .i64 0, .int .i64 0, .int .i64 0, .int .i64 0, .int .i64 0, .int .i64 0, .int .i64 0, .int .i64 0, .int .i64 0, .int .i64 0, .int .i64 0, .int .i64 0, .slice none 0 0, .slice none 0 0, .slice none 0 0, .slice none 0 0, .bool false] 145)).setRow wr.heap.size L.toArray) := setRow_fresh _ _ _
      generalize (wr.alloc (.cells #[.int .i64 0, .int .i64 0, .int .i64 0, .int .i64 0, .int .i64 0, .int .i64 0, .int .i64 0, .int .i64 0, .int .i64 0, .int .i64 0, .int .i64 0, .int .i64 0, .int .i64 0, .int .i64 0, .int .i64 0, .slice none 0 0, .slice none 0 0, .slice none 0 0, .slice none 0 0, .bool false] 145)).setRow wr.heap.size L.toArray = W1 at hX1 hb1 ⊢
      by_cases hle : La < z
      · have hle' : ¬ z ≤ La := by omega
        go_wp2_with (first
          | (refine wpList_load_rowG (by rfl) 145 (.tmp 5) rfl wr.heap.size rfl _ _ _ _ hX1.out Try.underlying145 rfl (by simp only [List.size_toArray, hL]; exact infoSeat) ?_)
          | (go_at_call 151; refine (HADR.out _).mono ?_; rintro e w2 ⟨rfl, hb2⟩; replace hX1 : Hid _ := blk hX1.out hb2; replace hb1 := keepB hb1 (Nat.le_refl _) hb2))
        go_roundw
        case rel => exact ⟨k + 1, by omega, by go_num, by rw [HL.out], HY.out (decide_eq_true hle), keepB hbel (Nat.le_refl _) hb1⟩
        case measure => simp [intOf]; omega
      · have hle' : z ≤ La := by omega
        go_wp2_with (first
          | (refine wpList_load_rowG (by rfl) 145 (.tmp 5) rfl wr.heap.size rfl _ _ _ _ hX1.out Try.underlying145 rfl (by simp only [List.size_toArray, hL]; exact infoSeat) ?_)
          | (go_at_call 151; refine (HADR.out _).mono ?_; rintro e w2 ⟨rfl, hb2⟩; replace hX1 : Hid _ := blk hX1.out hb2; replace hb1 := keepB hb1 (Nat.le_refl _) hb2))
        go_ret
        exact ⟨ret_bool (HN.out (decide_eq_false (by omega))).symm, keepB hbel (Nat.le_refl _) hb1⟩
    · have hkk : k = n := by omega
      have e1 := HA.out
      rw [hkk, ← hal] at e1
      have e2 : riseQ A = true := e1
      rw [hB.out] at e2
      subst e2
      go_wp2
      go_ret
      exact ⟨rfl, hbel⟩
end Go.Proofs.Ytklpaleghanhhaa
