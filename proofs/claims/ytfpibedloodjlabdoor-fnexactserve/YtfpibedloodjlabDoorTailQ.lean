/- WHAT STANDS BEHIND Fc AND At of a right question: the program's tailOf. -/
import Derived.Test.YtfpibedloodjlabDoorJoin2
import Derived.Test.YtfpibedloodjlabDoorAskQ
import Derived.Deep.RegionHeld3
import Derived.Deep.DeepCutAuto
import Derived.Deep.QuietTactic
import Derived.BigQuiet
namespace Go.Proofs.YtfpibedloodjlabDoor
open Go.RowKit
set_option linter.unusedVariables false
set_option linter.unusedSimpArgs false

theorem as_ll (v : Value) (w : World) : (Instr.typeAssert (.iface 94 v) 80 94 true).run Tryd.prog w = .ok (.tuple #[v, .bool true]) w := by kernel_rfl
theorem as_oo (v : Value) (w : World) : (Instr.typeAssert (.iface 82 v) 80 82 true).run Tryd.prog w = .ok (.tuple #[v, .bool true]) w := by kernel_rfl
theorem as_mm (v : Value) (w : World) : (Instr.typeAssert (.iface 84 v) 80 84 true).run Tryd.prog w = .ok (.tuple #[v, .bool true]) w := by kernel_rfl
theorem as_ol (v : Value) (w : World) : (Instr.typeAssert (.iface 82 v) 80 94 true).run Tryd.prog w = .ok (.tuple #[.agg #[.int .i64 0, .int .i64 0, .int .i64 0, .slice none 0 0], .bool false]) w := by kernel_rfl
theorem as_ml (v : Value) (w : World) : (Instr.typeAssert (.iface 84 v) 80 94 true).run Tryd.prog w = .ok (.tuple #[.agg #[.int .i64 0, .int .i64 0, .int .i64 0, .slice none 0 0], .bool false]) w := by kernel_rfl
theorem as_mo (v : Value) (w : World) : (Instr.typeAssert (.iface 84 v) 80 82 true).run Tryd.prog w = .ok (.tuple #[.agg #[.int .i64 0, .int .i64 0, .int .i64 0, .slice none 0 0], .bool false]) w := by kernel_rfl
def tailB (q : Ak) : ByteArray := ⟨q.tail.toArray⟩
theorem wordsB_one (n : Int) : wordsB [n] = twoB n := rfl
theorem row_one (w : World) (n : Int) : RowI (w.alloc (.cells #[.int .i64 n] 2)) (.slice (some ⟨w.heap.size, 0, none⟩) 1 1) [n] := by
  refine ⟨_, _, rfl, fun k hk => ⟨w.heap.size, rfl, by simp, ?_⟩⟩
  have hn := heap_alloc_new w (.cells #[.int .i64 n] 2)
  simp only [World.cell?, hn]
  match k, hk with
  | 0, _ => rfl
/-- one word as a text, out of a row that was just made -/
theorem word_new (n : Int) (h : 0 ≤ n ∧ n ≤ 65535) (W : World) : Calls Tryd.prog 58 #[.slice (some ⟨W.heap.size, 0, none⟩) 1 1] (W.alloc (.cells #[.int .i64 n] 2)) fun e w' => e = .returned (.string (twoB n)) ∧ Below W.heap.size W w' := by
  refine (wordsText_any _ [n] _ (by simp) (by simp [(wordB_iff n).2 h]) (row_one W n)).mono ?_
  rintro e w' ⟨rfl, hb⟩
  exact ⟨rfl, keepB (all_alloc _ _) (Nat.le_refl _) hb⟩
theorem join_three (a b c : ByteArray) (W : World) (ha : a.size ≤ 1000000) (hb : b.size ≤ 1000000) (hc : c.size ≤ 1000000) :
    Calls Tryd.prog 24 #[.slice (some ⟨W.heap.size, 0, none⟩) 3 3] (W.alloc (.cells #[.string a, .string b, .string c] 9)) fun e w' => e = .returned (.string (a ++ b ++ c)) ∧ Below W.heap.size W w' := by
  refine (join_row W.heap.size (0, 0) [a, b, c] _ (heap_alloc_new W _) (by simp) (by intro s hs; simp at hs; rcases hs with rfl | rfl | rfl <;> assumption)).mono ?_
  rintro e w' ⟨rfl, hb⟩
  refine ⟨by simp [joinT], ((Below.refl W.heap.size W).alloc (Nat.le_refl _) _).trans (hb.mono (by simp))⟩
theorem row_at {W : World} {g : Nat} {n : Int} {fz : Nat × Nat} (h : W.heap[g]? = some (.cells #[.int .i64 n] 2 fz)) : RowI W (.slice (some ⟨g, 0, none⟩) 1 1) [n] := by
  refine ⟨_, _, rfl, fun k hk => ⟨g, rfl, (Array.getElem?_eq_some_iff.1 h).1, ?_⟩⟩
  simp only [World.cell?, h]
  match k, hk with
  | 0, _ => rfl
theorem join_2t (a b : ByteArray) (W : World) (ha : a.size ≤ 1000000) (hb : b.size ≤ 1000000) :
    Calls Tryd.prog 24 #[.slice (some ⟨W.heap.size, 0, none⟩) 2 2] (W.alloc (.cells #[.string a, .string b] 9)) fun e w' => e = .returned (.string (a ++ b)) ∧ Below W.heap.size W w' := by
  refine (join_row W.heap.size (0, 0) [a, b] _ (heap_alloc_new W _) (by simp) (by intro s hs; simp at hs; rcases hs with rfl | rfl <;> assumption)).mono ?_
  rintro e w' ⟨rfl, hb⟩
  refine ⟨by simp [joinT], ((Below.refl W.heap.size W).alloc (Nat.le_refl _) _).trans (hb.mono (by simp))⟩
set_option maxRecDepth 100000 in
/-- coils or registers as bytes, behind a byte that tells how many -/
theorem countedText_any (k : Int) (v : Value) (zs : List Int) (w : World) (hl : zs.length ≤ 1000) (hw : coilB k = false → zs.all wordB = true) (hz : (valsB k zs).size ≤ 255) (hr : RowI w v zs) :
    Calls Tryd.prog 26 #[.int .i64 k, v] w fun e w' => e = .returned (.string (oneB ((valsB k zs).size : Int) ++ valsB k zs)) ∧ Below w.heap.size w w' := by
  have HV : Hid (Calls Tryd.prog 43 #[.int .i64 k, v] w fun e w' => e = .returned (.string (valsB k zs)) ∧ Below w.heap.size w w') := valuesText_any k v zs w hl hw hr
  generalize valsB k zs = D at HV hz ⊢
  have HB : Hid (∀ W : World, Calls Tryd.prog 25 #[.int .i64 (D.size : Int)] W fun e w' => e = .returned (.string (oneB (D.size : Int))) ∧ Below W.heap.size W w') := fun W => byteText_any _ W (by omega)
  have z2 : (oneB (D.size : Int)).size = 1 := rfl
  generalize oneB (D.size : Int) = t2 at HB z2 ⊢
  have HJ : Hid (∀ W : World, Calls Tryd.prog 24 #[.slice (some ⟨W.heap.size, 0, none⟩) 2 2] (W.alloc (.cells #[.string t2, .string D] 9)) fun e w' => e = .returned (.string (t2 ++ D)) ∧ Below W.heap.size W w') := fun W => join_2t t2 D W (by omega) (by omega)
  generalize t2 ++ D = R at HJ ⊢
  obtain ⟨p, c, rfl, hr⟩ := hr
  clear hr hw
  go_enter Tryd.func26, Tryd.ntmps26
  go_wp2_with (first
    | (go_at_call 43; refine HV.out.mono ?_; rintro e w1 ⟨rfl, hb1⟩)
    | (go_at_call 25; refine (HB.out _).mono ?_; rintro e w3 ⟨rfl, hb3⟩)
    | (go_at_call 24; refine (HJ.out _).mono ?_; rintro e w4 ⟨rfl, hb4⟩))
  go_ret
  exact ⟨rfl, keepB (keepB hb1 (Nat.le_refl _) hb3) (Nat.le_refl _) hb4⟩
set_option maxRecDepth 100000 in
set_option maxHeartbeats 800000 in
theorem tail_1 (a m : Int) (vs : List Int) (p : Option Addr) (c : Nat) (w : World) (hm : 0 ≤ m ∧ m ≤ 65535) :
    Calls Tryd.prog 68 #[.iface 94 (.agg #[.int .i64 1, .int .i64 a, .int .i64 m, .slice p vs.length c])] w fun e w' => e = .returned (.string (twoB m)) ∧ Below w.heap.size w w' := by
  have HT : Hid (∀ W : World, Calls Tryd.prog 58 #[.slice (some ⟨W.heap.size, 0, none⟩) 1 1] (W.alloc (.cells #[.int .i64 m] 2)) fun e w' => e = .returned (.string (twoB m)) ∧ Below W.heap.size W w') := word_new m hm
  generalize twoB m = R at HT ⊢
  have hA0 := all_alloc w (.cells #[.int .i64 1, .int .i64 a, .int .i64 m, .slice p vs.length c] 94)
  have e1 : (w.alloc (.cells #[.int .i64 1, .int .i64 a, .int .i64 m, .slice p vs.length c] 94)).heap.size = w.heap.size + 1 := by simp
  have HT1 := HT.out (w.alloc (.cells #[.int .i64 1, .int .i64 a, .int .i64 m, .slice p vs.length c] 94))
  rw [e1] at HT1
  have HT2 : Hid (Calls _ _ _ _ _) := HT1
  clear HT1
  have as1 := as_ll
  have as2 := as_oo
  have as3 := as_mm
  have as4 := as_ol
  have as5 := as_ml
  have as6 := as_mo
  go_enter Tryd.func68, Tryd.ntmps68
  go_wp2_with (go_at_call 58; refine HT2.out.mono ?_; rintro e w1 ⟨rfl, hb1⟩)
  go_ret
  exact ⟨rfl, keepB hA0 (Nat.le_refl _) (by rw [e1]; exact hb1)⟩
set_option maxRecDepth 100000 in
set_option maxHeartbeats 800000 in
theorem tail_3 (a m : Int) (vs : List Int) (p : Option Addr) (c : Nat) (w : World) (hm : 0 ≤ m ∧ m ≤ 65535) :
    Calls Tryd.prog 68 #[.iface 94 (.agg #[.int .i64 3, .int .i64 a, .int .i64 m, .slice p vs.length c])] w fun e w' => e = .returned (.string (twoB m)) ∧ Below w.heap.size w w' := by
  have HT : Hid (∀ W : World, Calls Tryd.prog 58 #[.slice (some ⟨W.heap.size, 0, none⟩) 1 1] (W.alloc (.cells #[.int .i64 m] 2)) fun e w' => e = .returned (.string (twoB m)) ∧ Below W.heap.size W w') := word_new m hm
  generalize twoB m = R at HT ⊢
  have hA0 := all_alloc w (.cells #[.int .i64 3, .int .i64 a, .int .i64 m, .slice p vs.length c] 94)
  have e1 : (w.alloc (.cells #[.int .i64 3, .int .i64 a, .int .i64 m, .slice p vs.length c] 94)).heap.size = w.heap.size + 1 := by simp
  have HT1 := HT.out (w.alloc (.cells #[.int .i64 3, .int .i64 a, .int .i64 m, .slice p vs.length c] 94))
  rw [e1] at HT1
  have HT2 : Hid (Calls _ _ _ _ _) := HT1
  clear HT1
  have as1 := as_ll
  have as2 := as_oo
  have as3 := as_mm
  have as4 := as_ol
  have as5 := as_ml
  have as6 := as_mo
  go_enter Tryd.func68, Tryd.ntmps68
  go_wp2_with (go_at_call 58; refine HT2.out.mono ?_; rintro e w1 ⟨rfl, hb1⟩)
  go_ret
  exact ⟨rfl, keepB hA0 (Nat.le_refl _) (by rw [e1]; exact hb1)⟩
set_option maxRecDepth 100000 in
set_option maxHeartbeats 800000 in
theorem tail_5 (a m : Int) (vs : List Int) (p : Option Addr) (c : Nat) (w : World) (v : Int) (hv : vs = [v]) (hb : v = 0 ∨ v = 1) (hr : RowI w (.slice p vs.length c) vs) :
    Calls Tryd.prog 68 #[.iface 82 (.agg #[.int .i64 5, .int .i64 a, .int .i64 m, .slice p vs.length c])] w fun e w' => e = .returned (.string (twoB (v * 65280))) ∧ Below w.heap.size w w' := by
  subst hv
  have HT : Hid (∀ W : World, Calls Tryd.prog 58 #[.slice (some ⟨W.heap.size, 0, none⟩) 1 1] (W.alloc (.cells #[.int .i64 (v * 65280)] 2)) fun e w' => e = .returned (.string (twoB (v * 65280))) ∧ Below W.heap.size W w') := word_new (v * 65280) (by omega)
  generalize twoB (v * 65280) = R at HT ⊢
  have HC : Hid (∀ W, Calls Tryd.prog 39 #[.int .i64 5] W fun e w' => e = .returned (.bool true) ∧ W = w') := fun W => asksCoils_any 5 W
  have hA0 := all_alloc w (.cells #[.int .i64 5, .int .i64 a, .int .i64 m, .slice p 1 c] 82)
  have e1 : (w.alloc (.cells #[.int .i64 5, .int .i64 a, .int .i64 m, .slice p 1 c] 82)).heap.size = w.heap.size + 1 := by simp
  have HT1 := HT.out (w.alloc (.cells #[.int .i64 5, .int .i64 a, .int .i64 m, .slice p 1 c] 82))
  rw [e1] at HT1
  have HT2 : Hid (Calls _ _ _ _ _) := HT1
  clear HT1
  obtain ⟨p', c', hsl, hcell⟩ := hr
  obtain ⟨g, hp, lg, qc⟩ := hcell 0 (by simp)
  cases hsl
  subst hp
  have qc' : (w.alloc (.cells #[.int .i64 5, .int .i64 a, .int .i64 m, .slice (some ⟨g, 0, none⟩) 1 c] 82)).cell? ⟨g, 0, none⟩ = some (.int .i64 v) := (hA0.cell (p := ⟨g, 0, none⟩) lg).trans qc
  show Calls Tryd.prog 68 #[.iface 82 (.agg #[.int .i64 5, .int .i64 a, .int .i64 m, .slice (some ⟨g, 0, none⟩) 1 c])] w _
  clear hcell qc
  have as1 := as_ll
  have as2 := as_oo
  have as3 := as_mm
  have as4 := as_ol
  have as5 := as_ml
  have as6 := as_mo
  go_enter Tryd.func68, Tryd.ntmps68
  go_wp2_with (first
    | (go_at_call 39; refine (HC.out _).mono ?_; rintro e w1 ⟨rfl, rfl⟩)
    | (go_at_call 58; refine HT2.out.mono ?_; rintro e w1 ⟨rfl, hb1⟩))
  go_ret
  exact ⟨rfl, keepB hA0 (Nat.le_refl _) (by rw [e1]; exact hb1)⟩
set_option maxRecDepth 100000 in
set_option maxHeartbeats 800000 in
theorem tail_6 (a m : Int) (vs : List Int) (p : Option Addr) (c : Nat) (w : World) (v : Int) (hv : vs = [v]) (hb : 0 ≤ v ∧ v ≤ 65535) (hr : RowI w (.slice p vs.length c) vs) :
    Calls Tryd.prog 68 #[.iface 82 (.agg #[.int .i64 6, .int .i64 a, .int .i64 m, .slice p vs.length c])] w fun e w' => e = .returned (.string (twoB (v))) ∧ Below w.heap.size w w' := by
  subst hv
  have HT : Hid (∀ W : World, Calls Tryd.prog 58 #[.slice (some ⟨W.heap.size, 0, none⟩) 1 1] (W.alloc (.cells #[.int .i64 (v)] 2)) fun e w' => e = .returned (.string (twoB (v))) ∧ Below W.heap.size W w') := word_new (v) (by omega)
  generalize twoB (v) = R at HT ⊢
  have HC : Hid (∀ W, Calls Tryd.prog 39 #[.int .i64 6] W fun e w' => e = .returned (.bool false) ∧ W = w') := fun W => asksCoils_any 6 W
  have hA0 := all_alloc w (.cells #[.int .i64 6, .int .i64 a, .int .i64 m, .slice p 1 c] 82)
  have e1 : (w.alloc (.cells #[.int .i64 6, .int .i64 a, .int .i64 m, .slice p 1 c] 82)).heap.size = w.heap.size + 1 := by simp
  have HT1 := HT.out (w.alloc (.cells #[.int .i64 6, .int .i64 a, .int .i64 m, .slice p 1 c] 82))
  rw [e1] at HT1
  have HT2 : Hid (Calls _ _ _ _ _) := HT1
  clear HT1
  obtain ⟨p', c', hsl, hcell⟩ := hr
  obtain ⟨g, hp, lg, qc⟩ := hcell 0 (by simp)
  cases hsl
  subst hp
  have qc' : (w.alloc (.cells #[.int .i64 6, .int .i64 a, .int .i64 m, .slice (some ⟨g, 0, none⟩) 1 c] 82)).cell? ⟨g, 0, none⟩ = some (.int .i64 v) := (hA0.cell (p := ⟨g, 0, none⟩) lg).trans qc
  show Calls Tryd.prog 68 #[.iface 82 (.agg #[.int .i64 6, .int .i64 a, .int .i64 m, .slice (some ⟨g, 0, none⟩) 1 c])] w _
  clear hcell qc
  have as1 := as_ll
  have as2 := as_oo
  have as3 := as_mm
  have as4 := as_ol
  have as5 := as_ml
  have as6 := as_mo
  go_enter Tryd.func68, Tryd.ntmps68
  go_wp2_with (first
    | (go_at_call 39; refine (HC.out _).mono ?_; rintro e w1 ⟨rfl, rfl⟩)
    | (go_at_call 58; refine HT2.out.mono ?_; rintro e w1 ⟨rfl, hb1⟩))
  go_ret
  exact ⟨rfl, keepB hA0 (Nat.le_refl _) (by rw [e1]; exact hb1)⟩
set_option maxRecDepth 100000 in
set_option maxHeartbeats 800000 in
theorem tail_15 (a m : Int) (vs : List Int) (p : Option Addr) (c : Nat) (w : World) (hm : 0 ≤ m ∧ m ≤ 65535) (hl : vs.length ≤ 16) (hw : coilB 15 = false → vs.all wordB = true) (hz : (bitsB vs).size ≤ 255) (hr : RowI w (.slice p vs.length c) vs) :
    Calls Tryd.prog 68 #[.iface 84 (.agg #[.int .i64 15, .int .i64 a, .int .i64 m, .slice p vs.length c])] w fun e w' => e = .returned (.string (twoB m ++ (oneB ((bitsB vs).size : Int) ++ bitsB vs))) ∧ Below w.heap.size w w' := by
  have HV : Hid (∀ W, Below w.heap.size w W → Calls Tryd.prog 26 #[.int .i64 15, .slice p vs.length c] W fun e w' => e = .returned (.string (oneB ((bitsB vs).size : Int) ++ bitsB vs)) ∧ Below W.heap.size W w') := fun W hW => countedText_any 15 _ vs W (by omega) hw hz (hr.below hW)
  have HW : Hid (∀ (W : World) (g : Nat), W.heap[g]? = some (.cells #[.int .i64 m] 2 (0, 0)) → Calls Tryd.prog 58 #[.slice (some ⟨g, 0, none⟩) 1 1] W fun e w' => e = .returned (.string (twoB m)) ∧ Below W.heap.size W w') := fun W g h => wordsText_any _ [m] W (by simp) (by simp [(wordB_iff m).2 hm]) (row_at h)
  have z1 : (twoB m).size = 2 := rfl
  have z2 : (oneB ((bitsB vs).size : Int) ++ bitsB vs).size ≤ 1000 := by rw [ByteArray.size_append, show (oneB ((bitsB vs).size : Int)).size = 1 from rfl]; omega
  generalize twoB m = t1 at HW z1 ⊢
  generalize oneB ((bitsB vs).size : Int) ++ bitsB vs = D at HV z2 ⊢
  have HJ : Hid (∀ W : World, Calls Tryd.prog 24 #[.slice (some ⟨W.heap.size, 0, none⟩) 2 2] (W.alloc (.cells #[.string t1, .string D] 9)) fun e w' => e = .returned (.string (t1 ++ D)) ∧ Below (W.alloc (.cells #[.string t1, .string D] 9)).heap.size (W.alloc (.cells #[.string t1, .string D] 9)) w') := fun W => by
    refine (join_row W.heap.size (0, 0) [t1, D] _ (heap_alloc_new W _) (by simp) (by intro s hs; simp at hs; rcases hs with rfl | rfl <;> omega)).mono ?_
    rintro e w' ⟨rfl, hb⟩
    exact ⟨by simp [joinT], hb⟩
  have hA0 : Hid (Below w.heap.size w _) := all_alloc w (.cells #[.int .i64 15, .int .i64 a, .int .i64 m, .slice p vs.length c] 84)
  have hX : Hid _ := heap_alloc_new w (.cells #[.int .i64 15, .int .i64 a, .int .i64 m, .slice p vs.length c] 84)
  generalize t1 ++ D = R at HJ ⊢
  clear hr hw hz z1 z2
  have as1 := as_ll
  have as2 := as_oo
  have as3 := as_mm
  have as4 := as_ol
  have as5 := as_ml
  have as6 := as_mo
  go_enter Tryd.func68, Tryd.ntmps68
  go_upto_region 12 with fail
  generalize w.alloc (.cells #[.int .i64 15, .int .i64 a, .int .i64 m, .slice p vs.length c] 84) = A at hX hA0 ⊢
  obtain ⟨G, hG⟩ : ∃ G, w.heap.size = G := ⟨_, rfl⟩
  rw [hG] at hX ⊢
  have x0 := cellW hX.out 0 _ rfl
  have x2 := cellW hX.out 2 _ rfl
  have x3 := cellW hX.out 3 _ rfl
  go_region_held3 (fun w' => Below A.heap.size A w') (first | assumption | exact Below.drew (Below.refl _ _) | exact Below.drew (all_alloc A _) | exact keepB (by assumption) (Nat.le_refl _) hbq | exact Below.alloc (by assumption) (Below.size (by assumption)) _) (first
    | (go_at_call 24; refine (HJ.out _).mono ?_; rintro e9 w9 ⟨rfl, hbq⟩)
    | (go_at_call 58; have key := HW.out (World.drew (A.alloc (.cells #[.int .i64 m] 2))) A.heap.size (heap_alloc_new A (.cells #[.int .i64 m] 2)); refine key.mono ?_; clear key; rintro e9 w9 ⟨rfl, hbq⟩)
    | (go_at_call 26; refine (HV.out _ (keepB hA0.out (Nat.le_refl _) (by assumption))).mono ?_; rintro e9 w9 ⟨rfl, hbq⟩))
  all_goals
    go_wp2
    go_ret
    exact ⟨rfl, keepB hA0.out (Nat.le_refl _) (by assumption)⟩
set_option maxRecDepth 100000 in
set_option maxHeartbeats 800000 in
theorem tail_16 (a m : Int) (vs : List Int) (p : Option Addr) (c : Nat) (w : World) (hm : 0 ≤ m ∧ m ≤ 65535) (hl : vs.length ≤ 16) (hw : coilB 16 = false → vs.all wordB = true) (hz : (wordsB vs).size ≤ 255) (hr : RowI w (.slice p vs.length c) vs) :
    Calls Tryd.prog 68 #[.iface 84 (.agg #[.int .i64 16, .int .i64 a, .int .i64 m, .slice p vs.length c])] w fun e w' => e = .returned (.string (twoB m ++ (oneB ((wordsB vs).size : Int) ++ wordsB vs))) ∧ Below w.heap.size w w' := by
  have HV : Hid (∀ W, Below w.heap.size w W → Calls Tryd.prog 26 #[.int .i64 16, .slice p vs.length c] W fun e w' => e = .returned (.string (oneB ((wordsB vs).size : Int) ++ wordsB vs)) ∧ Below W.heap.size W w') := fun W hW => countedText_any 16 _ vs W (by omega) hw hz (hr.below hW)
  have HW : Hid (∀ (W : World) (g : Nat), W.heap[g]? = some (.cells #[.int .i64 m] 2 (0, 0)) → Calls Tryd.prog 58 #[.slice (some ⟨g, 0, none⟩) 1 1] W fun e w' => e = .returned (.string (twoB m)) ∧ Below W.heap.size W w') := fun W g h => wordsText_any _ [m] W (by simp) (by simp [(wordB_iff m).2 hm]) (row_at h)
  have z1 : (twoB m).size = 2 := rfl
  have z2 : (oneB ((wordsB vs).size : Int) ++ wordsB vs).size ≤ 1000 := by rw [ByteArray.size_append, show (oneB ((wordsB vs).size : Int)).size = 1 from rfl]; omega
  generalize twoB m = t1 at HW z1 ⊢
  generalize oneB ((wordsB vs).size : Int) ++ wordsB vs = D at HV z2 ⊢
  have HJ : Hid (∀ W : World, Calls Tryd.prog 24 #[.slice (some ⟨W.heap.size, 0, none⟩) 2 2] (W.alloc (.cells #[.string t1, .string D] 9)) fun e w' => e = .returned (.string (t1 ++ D)) ∧ Below (W.alloc (.cells #[.string t1, .string D] 9)).heap.size (W.alloc (.cells #[.string t1, .string D] 9)) w') := fun W => by
    refine (join_row W.heap.size (0, 0) [t1, D] _ (heap_alloc_new W _) (by simp) (by intro s hs; simp at hs; rcases hs with rfl | rfl <;> omega)).mono ?_
    rintro e w' ⟨rfl, hb⟩
    exact ⟨by simp [joinT], hb⟩
  have hA0 : Hid (Below w.heap.size w _) := all_alloc w (.cells #[.int .i64 16, .int .i64 a, .int .i64 m, .slice p vs.length c] 84)
  have hX : Hid _ := heap_alloc_new w (.cells #[.int .i64 16, .int .i64 a, .int .i64 m, .slice p vs.length c] 84)
  generalize t1 ++ D = R at HJ ⊢
  clear hr hw hz z1 z2
  have as1 := as_ll
  have as2 := as_oo
  have as3 := as_mm
  have as4 := as_ol
  have as5 := as_ml
  have as6 := as_mo
  go_enter Tryd.func68, Tryd.ntmps68
  go_upto_region 12 with fail
  generalize w.alloc (.cells #[.int .i64 16, .int .i64 a, .int .i64 m, .slice p vs.length c] 84) = A at hX hA0 ⊢
  obtain ⟨G, hG⟩ : ∃ G, w.heap.size = G := ⟨_, rfl⟩
  rw [hG] at hX ⊢
  have x0 := cellW hX.out 0 _ rfl
  have x2 := cellW hX.out 2 _ rfl
  have x3 := cellW hX.out 3 _ rfl
  go_region_held3 (fun w' => Below A.heap.size A w') (first | assumption | exact Below.drew (Below.refl _ _) | exact Below.drew (all_alloc A _) | exact keepB (by assumption) (Nat.le_refl _) hbq | exact Below.alloc (by assumption) (Below.size (by assumption)) _) (first
    | (go_at_call 24; refine (HJ.out _).mono ?_; rintro e9 w9 ⟨rfl, hbq⟩)
    | (go_at_call 58; have key := HW.out (World.drew (A.alloc (.cells #[.int .i64 m] 2))) A.heap.size (heap_alloc_new A (.cells #[.int .i64 m] 2)); refine key.mono ?_; clear key; rintro e9 w9 ⟨rfl, hbq⟩)
    | (go_at_call 26; refine (HV.out _ (keepB hA0.out (Nat.le_refl _) (by assumption))).mono ?_; rintro e9 w9 ⟨rfl, hbq⟩))
  all_goals
    go_wp2
    go_ret
    exact ⟨rfl, keepB hA0.out (Nat.le_refl _) (by assumption)⟩
theorem tailB_eq {q : Ak} {s : ByteArray} (h : s.data.toList = q.tail) : s = tailB q := ByteArray.ext (Array.ext' (by rw [h]; rfl))
theorem tailOf_any (q : Ak) (p : Option Addr) (c : Nat) (w : World) (hR : q.right = true) (hr : RowI w (.slice p q.vs.length c) q.vs) :
    Calls Tryd.prog 68 #[.iface (qType q.c) (qVal q (.slice p q.vs.length c))] w fun e w' => e = .returned (.string (tailB q)) ∧ Below w.heap.size w w' := by
  have hc := Ak.codes hR
  unfold Ak.right at hR
  rw [Bool.and_eq_true] at hR
  have hf := hR.2
  obtain ⟨k, a, m, vs⟩ := q
  dsimp only at *
  rcases hc with rfl | rfl | rfl | rfl | rfl | rfl
  · simp [Ak.fit] at hf
    exact tail_1 a m vs p c w (by omega)
  · simp [Ak.fit] at hf
    exact tail_3 a m vs p c w (by omega)
  · obtain ⟨v, rfl⟩ : ∃ v, vs = [v] := by
      simp [Ak.fit] at hf
      match vs, hf.2.1 with
      | [v], _ => exact ⟨v, rfl⟩
    simp [Ak.fit] at hf
    have := tail_5 a m [v] p c w v rfl ((bitB_iff _).1 hf.2) hr
    rw [show twoB (v * 65280) = tailB ⟨5, a, m, [v]⟩ from tailB_eq (by simp [twoB, Ak.tail, Int.mul_comm])] at this
    exact this
  · obtain ⟨v, rfl⟩ : ∃ v, vs = [v] := by
      simp [Ak.fit] at hf
      match vs, hf.2.1 with
      | [v], _ => exact ⟨v, rfl⟩
    simp [Ak.fit] at hf
    have := tail_6 a m [v] p c w v rfl ((wordB_iff _).1 hf.2) hr
    rw [show twoB v = tailB ⟨6, a, m, [v]⟩ from tailB_eq (by simp [twoB, Ak.tail])] at this
    exact this
  · have hf2 : ((decide (1 ≤ m) && decide (m ≤ 16)) && (decide ((vs.length : Int) = m) && vs.all bitB)) = true := hf
    rw [Bool.and_eq_true, Bool.and_eq_true, Bool.and_eq_true, decide_eq_true_eq, decide_eq_true_eq, decide_eq_true_eq] at hf2
    obtain ⟨⟨h1, h2⟩, h3, h4⟩ := hf2
    have hB : bitsB vs = packB vs := by unfold bitsB; rw [h4, decide_eq_true (show vs.length ≤ 64 by omega)]; rfl
    have hz : (packB vs).size = (vs.length + 7) / 8 := by have := packL_length vs; simpa [packB, ByteArray.size] using this
    have := tail_15 a m vs p c w (by omega) (by omega) (fun h => by cases h) (by rw [hB, hz]; omega) hr
    rw [hB, show twoB m ++ (oneB ((packB vs).size : Int) ++ packB vs) = tailB ⟨15, a, m, vs⟩ from tailB_eq (by simp [twoB, oneB, packB, ByteArray.size, Ak.tail, countedL])] at this
    exact this
  · have hf2 : ((decide (1 ≤ m) && decide (m ≤ 4)) && (decide ((vs.length : Int) = m) && vs.all wordB)) = true := hf
    rw [Bool.and_eq_true, Bool.and_eq_true, Bool.and_eq_true, decide_eq_true_eq, decide_eq_true_eq, decide_eq_true_eq] at hf2
    obtain ⟨⟨h1, h2⟩, h3, h4⟩ := hf2
    have hz := wordsB_size vs
    have := tail_16 a m vs p c w (by omega) (by omega) (fun _ => h4) (by omega) hr
    rw [show twoB m ++ (oneB ((wordsB vs).size : Int) ++ wordsB vs) = tailB ⟨16, a, m, vs⟩ from tailB_eq (by simp [twoB, oneB, wordsB, ByteArray.size, Ak.tail, countedL])] at this
    exact this
end Go.Proofs.YtfpibedloodjlabDoor
