/- WHAT STANDS BEHIND Fc AND At of a right question: the program's tailOf. -/
import Derived.Test.YtpnkpfamhppapaaTexts
import Derived.Test.YtpnkpfamhppapaaAskQ
import Derived.Test.YtpnkpfamhppapaaJoin2
namespace Go.Proofs.Ytpnkpfamhppapaa
open Go.RowKit
set_option linter.unusedVariables false
set_option linter.unusedSimpArgs false

theorem as_ll (v : Value) (w : World) : (Instr.typeAssert (.iface 76 v) 60 76 true).run Try.prog w = .ok (.tuple #[v, .bool true]) w := by kernel_rfl
theorem as_oo (v : Value) (w : World) : (Instr.typeAssert (.iface 77 v) 60 77 true).run Try.prog w = .ok (.tuple #[v, .bool true]) w := by kernel_rfl
theorem as_mm (v : Value) (w : World) : (Instr.typeAssert (.iface 78 v) 60 78 true).run Try.prog w = .ok (.tuple #[v, .bool true]) w := by kernel_rfl
theorem as_ol (v : Value) (w : World) : (Instr.typeAssert (.iface 77 v) 60 76 true).run Try.prog w = .ok (.tuple #[.agg #[.int .i64 0, .int .i64 0, .int .i64 0, .slice none 0 0], .bool false]) w := by kernel_rfl
theorem as_ml (v : Value) (w : World) : (Instr.typeAssert (.iface 78 v) 60 76 true).run Try.prog w = .ok (.tuple #[.agg #[.int .i64 0, .int .i64 0, .int .i64 0, .slice none 0 0], .bool false]) w := by kernel_rfl
theorem as_mo (v : Value) (w : World) : (Instr.typeAssert (.iface 78 v) 60 77 true).run Try.prog w = .ok (.tuple #[.agg #[.int .i64 0, .int .i64 0, .int .i64 0, .slice none 0 0], .bool false]) w := by kernel_rfl
def tailB (q : Ak) : ByteArray := ⟨q.tail.toArray⟩
theorem wordsB_one (n : Int) : wordsB [n] = twoB n := rfl
theorem row_one (w : World) (n : Int) : RowI (w.alloc (.cells #[.int .i64 n] 2)) (.slice (some ⟨w.heap.size, 0, none⟩) 1 1) [n] := by
  refine ⟨_, _, rfl, fun k hk => ⟨w.heap.size, rfl, by simp, ?_⟩⟩
  have hn := heap_alloc_new w (.cells #[.int .i64 n] 2)
  simp only [World.cell?, hn]
  match k, hk with
  | 0, _ => rfl
/-- one word as a text, out of a row that was just made -/
theorem word_new (n : Int) (h : 0 ≤ n ∧ n ≤ 65535) (W : World) : Calls Try.prog 39 #[.slice (some ⟨W.heap.size, 0, none⟩) 1 1] (W.alloc (.cells #[.int .i64 n] 2)) fun e w' => e = .returned (.string (twoB n)) ∧ Below W.heap.size W w' := by
  refine (wordsText_any _ [n] _ (by simp) (by simp [(wordB_iff n).2 h]) (row_one W n)).mono ?_
  rintro e w' ⟨rfl, hb⟩
  exact ⟨rfl, keepB (all_alloc _ _) (Nat.le_refl _) hb⟩
theorem join_three (a b c : ByteArray) (W : World) (ha : a.size ≤ 1000000) (hb : b.size ≤ 1000000) (hc : c.size ≤ 1000000) :
    Calls Try.prog 37 #[.slice (some ⟨W.heap.size, 0, none⟩) 3 3] (W.alloc (.cells #[.string a, .string b, .string c] 9)) fun e w' => e = .returned (.string (a ++ b ++ c)) ∧ Below W.heap.size W w' := by
  refine (join_row W.heap.size (0, 0) [a, b, c] _ (heap_alloc_new W _) (by simp) (by intro s hs; simp at hs; rcases hs with rfl | rfl | rfl <;> assumption)).mono ?_
  rintro e w' ⟨rfl, hb⟩
  refine ⟨by simp [joinT], ((Below.refl W.heap.size W).alloc (Nat.le_refl _) _).trans (hb.mono (by simp))⟩
set_option maxRecDepth 100000 in
set_option maxHeartbeats 800000 in
theorem tail_1 (a m : Int) (vs : List Int) (p : Option Addr) (c : Nat) (w : World) (hm : 0 ≤ m ∧ m ≤ 65535) :
    Calls Try.prog 40 #[.iface 76 (.agg #[.int .i64 1, .int .i64 a, .int .i64 m, .slice p vs.length c])] w fun e w' => e = .returned (.string (twoB m)) ∧ Below w.heap.size w w' := by
  have HT : Hid (∀ W : World, Calls Try.prog 39 #[.slice (some ⟨W.heap.size, 0, none⟩) 1 1] (W.alloc (.cells #[.int .i64 m] 2)) fun e w' => e = .returned (.string (twoB m)) ∧ Below W.heap.size W w') := word_new m hm
  generalize twoB m = R at HT ⊢
  have hA0 := all_alloc w (.cells #[.int .i64 1, .int .i64 a, .int .i64 m, .slice p vs.length c] 76)
  have e1 : (w.alloc (.cells #[.int .i64 1, .int .i64 a, .int .i64 m, .slice p vs.length c] 76)).heap.size = w.heap.size + 1 := by simp
  have HT1 := HT.out (w.alloc (.cells #[.int .i64 1, .int .i64 a, .int .i64 m, .slice p vs.length c] 76))
  rw [e1] at HT1
  have HT2 : Hid (Calls _ _ _ _ _) := HT1
  clear HT1
  have as1 := as_ll
  have as2 := as_oo
  have as3 := as_mm
  have as4 := as_ol
  have as5 := as_ml
  have as6 := as_mo
  go_enter Try.func40, Try.ntmps40
  go_wp2_with (go_at_call 39; refine HT2.out.mono ?_; rintro e w1 ⟨rfl, hb1⟩)
  go_ret
  exact ⟨rfl, keepB hA0 (Nat.le_refl _) (by rw [e1]; exact hb1)⟩
set_option maxRecDepth 100000 in
set_option maxHeartbeats 800000 in
theorem tail_3 (a m : Int) (vs : List Int) (p : Option Addr) (c : Nat) (w : World) (hm : 0 ≤ m ∧ m ≤ 65535) :
    Calls Try.prog 40 #[.iface 76 (.agg #[.int .i64 3, .int .i64 a, .int .i64 m, .slice p vs.length c])] w fun e w' => e = .returned (.string (twoB m)) ∧ Below w.heap.size w w' := by
  have HT : Hid (∀ W : World, Calls Try.prog 39 #[.slice (some ⟨W.heap.size, 0, none⟩) 1 1] (W.alloc (.cells #[.int .i64 m] 2)) fun e w' => e = .returned (.string (twoB m)) ∧ Below W.heap.size W w') := word_new m hm
  generalize twoB m = R at HT ⊢
  have hA0 := all_alloc w (.cells #[.int .i64 3, .int .i64 a, .int .i64 m, .slice p vs.length c] 76)
  have e1 : (w.alloc (.cells #[.int .i64 3, .int .i64 a, .int .i64 m, .slice p vs.length c] 76)).heap.size = w.heap.size + 1 := by simp
  have HT1 := HT.out (w.alloc (.cells #[.int .i64 3, .int .i64 a, .int .i64 m, .slice p vs.length c] 76))
  rw [e1] at HT1
  have HT2 : Hid (Calls _ _ _ _ _) := HT1
  clear HT1
  have as1 := as_ll
  have as2 := as_oo
  have as3 := as_mm
  have as4 := as_ol
  have as5 := as_ml
  have as6 := as_mo
  go_enter Try.func40, Try.ntmps40
  go_wp2_with (go_at_call 39; refine HT2.out.mono ?_; rintro e w1 ⟨rfl, hb1⟩)
  go_ret
  exact ⟨rfl, keepB hA0 (Nat.le_refl _) (by rw [e1]; exact hb1)⟩
set_option maxRecDepth 100000 in
set_option maxHeartbeats 800000 in
theorem tail_5 (a m : Int) (vs : List Int) (p : Option Addr) (c : Nat) (w : World) (v : Int) (hv : vs = [v]) (hb : v = 0 ∨ v = 1) (hr : RowI w (.slice p vs.length c) vs) :
    Calls Try.prog 40 #[.iface 77 (.agg #[.int .i64 5, .int .i64 a, .int .i64 m, .slice p vs.length c])] w fun e w' => e = .returned (.string (twoB (v * 65280))) ∧ Below w.heap.size w w' := by
  subst hv
  have HT : Hid (∀ W : World, Calls Try.prog 39 #[.slice (some ⟨W.heap.size, 0, none⟩) 1 1] (W.alloc (.cells #[.int .i64 (v * 65280)] 2)) fun e w' => e = .returned (.string (twoB (v * 65280))) ∧ Below W.heap.size W w') := word_new (v * 65280) (by omega)
  generalize twoB (v * 65280) = R at HT ⊢
  have HC : Hid (∀ W, Calls Try.prog 64 #[.int .i64 5] W fun e w' => e = .returned (.bool true) ∧ W = w') := fun W => asksCoils_any 5 W
  have hA0 := all_alloc w (.cells #[.int .i64 5, .int .i64 a, .int .i64 m, .slice p 1 c] 77)
  have e1 : (w.alloc (.cells #[.int .i64 5, .int .i64 a, .int .i64 m, .slice p 1 c] 77)).heap.size = w.heap.size + 1 := by simp
  have HT1 := HT.out (w.alloc (.cells #[.int .i64 5, .int .i64 a, .int .i64 m, .slice p 1 c] 77))
  rw [e1] at HT1
  have HT2 : Hid (Calls _ _ _ _ _) := HT1
  clear HT1
  obtain ⟨p', c', hsl, hcell⟩ := hr
  obtain ⟨g, hp, lg, qc⟩ := hcell 0 (by simp)
  cases hsl
  subst hp
  have qc' : (w.alloc (.cells #[.int .i64 5, .int .i64 a, .int .i64 m, .slice (some ⟨g, 0, none⟩) 1 c] 77)).cell? ⟨g, 0, none⟩ = some (.int .i64 v) := (hA0.cell (p := ⟨g, 0, none⟩) lg).trans qc
  show Calls Try.prog 40 #[.iface 77 (.agg #[.int .i64 5, .int .i64 a, .int .i64 m, .slice (some ⟨g, 0, none⟩) 1 c])] w _
  clear hcell qc
  have as1 := as_ll
  have as2 := as_oo
  have as3 := as_mm
  have as4 := as_ol
  have as5 := as_ml
  have as6 := as_mo
  go_enter Try.func40, Try.ntmps40
  go_wp2_with (first
    | (go_at_call 64; refine (HC.out _).mono ?_; rintro e w1 ⟨rfl, rfl⟩)
    | (go_at_call 39; refine HT2.out.mono ?_; rintro e w1 ⟨rfl, hb1⟩))
  go_ret
  exact ⟨rfl, keepB hA0 (Nat.le_refl _) (by rw [e1]; exact hb1)⟩
set_option maxRecDepth 100000 in
set_option maxHeartbeats 800000 in
theorem tail_6 (a m : Int) (vs : List Int) (p : Option Addr) (c : Nat) (w : World) (v : Int) (hv : vs = [v]) (hb : 0 ≤ v ∧ v ≤ 65535) (hr : RowI w (.slice p vs.length c) vs) :
    Calls Try.prog 40 #[.iface 77 (.agg #[.int .i64 6, .int .i64 a, .int .i64 m, .slice p vs.length c])] w fun e w' => e = .returned (.string (twoB (v))) ∧ Below w.heap.size w w' := by
  subst hv
  have HT : Hid (∀ W : World, Calls Try.prog 39 #[.slice (some ⟨W.heap.size, 0, none⟩) 1 1] (W.alloc (.cells #[.int .i64 (v)] 2)) fun e w' => e = .returned (.string (twoB (v))) ∧ Below W.heap.size W w') := word_new (v) (by omega)
  generalize twoB (v) = R at HT ⊢
  have HC : Hid (∀ W, Calls Try.prog 64 #[.int .i64 6] W fun e w' => e = .returned (.bool false) ∧ W = w') := fun W => asksCoils_any 6 W
  have hA0 := all_alloc w (.cells #[.int .i64 6, .int .i64 a, .int .i64 m, .slice p 1 c] 77)
  have e1 : (w.alloc (.cells #[.int .i64 6, .int .i64 a, .int .i64 m, .slice p 1 c] 77)).heap.size = w.heap.size + 1 := by simp
  have HT1 := HT.out (w.alloc (.cells #[.int .i64 6, .int .i64 a, .int .i64 m, .slice p 1 c] 77))
  rw [e1] at HT1
  have HT2 : Hid (Calls _ _ _ _ _) := HT1
  clear HT1
  obtain ⟨p', c', hsl, hcell⟩ := hr
  obtain ⟨g, hp, lg, qc⟩ := hcell 0 (by simp)
  cases hsl
  subst hp
  have qc' : (w.alloc (.cells #[.int .i64 6, .int .i64 a, .int .i64 m, .slice (some ⟨g, 0, none⟩) 1 c] 77)).cell? ⟨g, 0, none⟩ = some (.int .i64 v) := (hA0.cell (p := ⟨g, 0, none⟩) lg).trans qc
  show Calls Try.prog 40 #[.iface 77 (.agg #[.int .i64 6, .int .i64 a, .int .i64 m, .slice (some ⟨g, 0, none⟩) 1 c])] w _
  clear hcell qc
  have as1 := as_ll
  have as2 := as_oo
  have as3 := as_mm
  have as4 := as_ol
  have as5 := as_ml
  have as6 := as_mo
  go_enter Try.func40, Try.ntmps40
  go_wp2_with (first
    | (go_at_call 64; refine (HC.out _).mono ?_; rintro e w1 ⟨rfl, rfl⟩)
    | (go_at_call 39; refine HT2.out.mono ?_; rintro e w1 ⟨rfl, hb1⟩))
  go_ret
  exact ⟨rfl, keepB hA0 (Nat.le_refl _) (by rw [e1]; exact hb1)⟩
set_option maxRecDepth 100000 in
set_option maxHeartbeats 800000 in
theorem tail_15 (a m : Int) (vs : List Int) (p : Option Addr) (c : Nat) (w : World) (hm : 0 ≤ m ∧ m ≤ 65535) (hl : vs.length ≤ 16) (hw : coilB 15 = false → vs.all wordB = true) (hz : (bitsB vs).size ≤ 255) (hr : RowI w (.slice p vs.length c) vs) :
    Calls Try.prog 40 #[.iface 78 (.agg #[.int .i64 15, .int .i64 a, .int .i64 m, .slice p vs.length c])] w fun e w' => e = .returned (.string (twoB m ++ oneB ((bitsB vs).size : Int) ++ bitsB vs)) ∧ Below w.heap.size w w' := by
  have HV : Hid (∀ W, Below w.heap.size w W → Calls Try.prog 65 #[.int .i64 15, .slice p vs.length c] W fun e w' => e = .returned (.string (bitsB vs)) ∧ Below W.heap.size W w') := fun W hW => valuesText_any 15 _ vs W (by omega) hw (hr.below hW)
  have HT : Hid (∀ W : World, Calls Try.prog 39 #[.slice (some ⟨W.heap.size, 0, none⟩) 1 1] (W.alloc (.cells #[.int .i64 m] 2)) fun e w' => e = .returned (.string (twoB m)) ∧ Below W.heap.size W w') := word_new m hm
  generalize hR1 : bitsB vs = D at HV hz ⊢
  have HB : Hid (∀ W : World, Calls Try.prog 38 #[.int .i64 (D.size : Int)] W fun e w' => e = .returned (.string (oneB (D.size : Int))) ∧ Below W.heap.size W w') := fun W => byteText_any _ W (by omega)
  have z1 : (twoB m).size = 2 := rfl
  have z2 : (oneB (D.size : Int)).size = 1 := rfl
  generalize twoB m = t1 at HT z1 ⊢
  generalize oneB (D.size : Int) = t2 at HB z2 ⊢
  have HJ : Hid (∀ W : World, Calls Try.prog 37 #[.slice (some ⟨W.heap.size, 0, none⟩) 3 3] (W.alloc (.cells #[.string t1, .string t2, .string D] 9)) fun e w' => e = .returned (.string (t1 ++ t2 ++ D)) ∧ Below W.heap.size W w') := fun W => join_three t1 t2 D W (by omega) (by omega) (by omega)
  have hA0 := all_alloc w (.cells #[.int .i64 15, .int .i64 a, .int .i64 m, .slice p vs.length c] 78)
  have hX : Hid _ := heap_alloc_new w (.cells #[.int .i64 15, .int .i64 a, .int .i64 m, .slice p vs.length c] 78)
  generalize t1 ++ t2 ++ D = R at HJ ⊢
  clear hr hw hR1
  have as1 := as_ll
  have as2 := as_oo
  have as3 := as_mm
  have as4 := as_ol
  have as5 := as_ml
  have as6 := as_mo
  go_enter Try.func40, Try.ntmps40
  go_wp2_with (first
    | (go_at_call 65; refine (HV.out _ hA0).mono ?_; rintro e w1 ⟨rfl, hb1⟩; have hX1 : Hid _ := blk hX.out hb1; have x2 := cellW hX1.out 2 _ rfl w1 (Below.refl _ _))
    | (go_at_call 39; refine (HT.out _).mono ?_; rintro e w2 ⟨rfl, hb2⟩)
    | (go_at_call 38; refine (HB.out _).mono ?_; rintro e w3 ⟨rfl, hb3⟩)
    | (go_at_call 37; refine (HJ.out _).mono ?_; rintro e w4 ⟨rfl, hb4⟩))
  go_ret
  exact ⟨rfl, keepB (keepB (keepB (keepB hA0 (Nat.le_refl _) hb1) (Nat.le_refl _) hb2) (Nat.le_refl _) hb3) (Nat.le_refl _) hb4⟩
set_option maxRecDepth 100000 in
set_option maxHeartbeats 800000 in
theorem tail_16 (a m : Int) (vs : List Int) (p : Option Addr) (c : Nat) (w : World) (hm : 0 ≤ m ∧ m ≤ 65535) (hl : vs.length ≤ 16) (hw : coilB 16 = false → vs.all wordB = true) (hz : (wordsB vs).size ≤ 255) (hr : RowI w (.slice p vs.length c) vs) :
    Calls Try.prog 40 #[.iface 78 (.agg #[.int .i64 16, .int .i64 a, .int .i64 m, .slice p vs.length c])] w fun e w' => e = .returned (.string (twoB m ++ oneB ((wordsB vs).size : Int) ++ wordsB vs)) ∧ Below w.heap.size w w' := by
  have HV : Hid (∀ W, Below w.heap.size w W → Calls Try.prog 65 #[.int .i64 16, .slice p vs.length c] W fun e w' => e = .returned (.string (wordsB vs)) ∧ Below W.heap.size W w') := fun W hW => valuesText_any 16 _ vs W (by omega) hw (hr.below hW)
  have HT : Hid (∀ W : World, Calls Try.prog 39 #[.slice (some ⟨W.heap.size, 0, none⟩) 1 1] (W.alloc (.cells #[.int .i64 m] 2)) fun e w' => e = .returned (.string (twoB m)) ∧ Below W.heap.size W w') := word_new m hm
  generalize hR1 : wordsB vs = D at HV hz ⊢
  have HB : Hid (∀ W : World, Calls Try.prog 38 #[.int .i64 (D.size : Int)] W fun e w' => e = .returned (.string (oneB (D.size : Int))) ∧ Below W.heap.size W w') := fun W => byteText_any _ W (by omega)
  have z1 : (twoB m).size = 2 := rfl
  have z2 : (oneB (D.size : Int)).size = 1 := rfl
  generalize twoB m = t1 at HT z1 ⊢
  generalize oneB (D.size : Int) = t2 at HB z2 ⊢
  have HJ : Hid (∀ W : World, Calls Try.prog 37 #[.slice (some ⟨W.heap.size, 0, none⟩) 3 3] (W.alloc (.cells #[.string t1, .string t2, .string D] 9)) fun e w' => e = .returned (.string (t1 ++ t2 ++ D)) ∧ Below W.heap.size W w') := fun W => join_three t1 t2 D W (by omega) (by omega) (by omega)
  have hA0 := all_alloc w (.cells #[.int .i64 16, .int .i64 a, .int .i64 m, .slice p vs.length c] 78)
  have hX : Hid _ := heap_alloc_new w (.cells #[.int .i64 16, .int .i64 a, .int .i64 m, .slice p vs.length c] 78)
  generalize t1 ++ t2 ++ D = R at HJ ⊢
  clear hr hw hR1
  have as1 := as_ll
  have as2 := as_oo
  have as3 := as_mm
  have as4 := as_ol
  have as5 := as_ml
  have as6 := as_mo
  go_enter Try.func40, Try.ntmps40
  go_wp2_with (first
    | (go_at_call 65; refine (HV.out _ hA0).mono ?_; rintro e w1 ⟨rfl, hb1⟩; have hX1 : Hid _ := blk hX.out hb1; have x2 := cellW hX1.out 2 _ rfl w1 (Below.refl _ _))
    | (go_at_call 39; refine (HT.out _).mono ?_; rintro e w2 ⟨rfl, hb2⟩)
    | (go_at_call 38; refine (HB.out _).mono ?_; rintro e w3 ⟨rfl, hb3⟩)
    | (go_at_call 37; refine (HJ.out _).mono ?_; rintro e w4 ⟨rfl, hb4⟩))
  go_ret
  exact ⟨rfl, keepB (keepB (keepB (keepB hA0 (Nat.le_refl _) hb1) (Nat.le_refl _) hb2) (Nat.le_refl _) hb3) (Nat.le_refl _) hb4⟩
theorem tailB_eq {q : Ak} {s : ByteArray} (h : s.data.toList = q.tail) : s = tailB q := ByteArray.ext (Array.ext' (by rw [h]; rfl))
theorem tailOf_any (q : Ak) (p : Option Addr) (c : Nat) (w : World) (hR : q.right = true) (hr : RowI w (.slice p q.vs.length c) q.vs) :
    Calls Try.prog 40 #[.iface (qType q.c) (qVal q (.slice p q.vs.length c))] w fun e w' => e = .returned (.string (tailB q)) ∧ Below w.heap.size w w' := by
  have hc := Ak.codes hR
  unfold Ak.right at hR
  rw [Bool.and_eq_true] at hR
  have hf := hR.2
  obtain ⟨k, a, m, vs⟩ := q
  dsimp only at *
  rcases hc with rfl | rfl | rfl | rfl | rfl | rfl
  · simp [Ak.fit] at hf
    exact tail_1 a m vs p c w (by omega)
  · simp [Ak.fit] at hf
    exact tail_3 a m vs p c w (by omega)
  · obtain ⟨v, rfl⟩ : ∃ v, vs = [v] := by
      simp [Ak.fit] at hf
      match vs, hf.2.1 with
      | [v], _ => exact ⟨v, rfl⟩
    simp [Ak.fit] at hf
    have := tail_5 a m [v] p c w v rfl ((bitB_iff _).1 hf.2) hr
    rw [show twoB (v * 65280) = tailB ⟨5, a, m, [v]⟩ from tailB_eq (by simp [twoB, Ak.tail, Int.mul_comm])] at this
    exact this
  · obtain ⟨v, rfl⟩ : ∃ v, vs = [v] := by
      simp [Ak.fit] at hf
      match vs, hf.2.1 with
      | [v], _ => exact ⟨v, rfl⟩
    simp [Ak.fit] at hf
    have := tail_6 a m [v] p c w v rfl ((wordB_iff _).1 hf.2) hr
    rw [show twoB v = tailB ⟨6, a, m, [v]⟩ from tailB_eq (by simp [twoB, Ak.tail])] at this
    exact this
  · have hf2 : ((decide (1 ≤ m) && decide (m ≤ 16)) && (decide ((vs.length : Int) = m) && vs.all bitB)) = true := hf
    rw [Bool.and_eq_true, Bool.and_eq_true, Bool.and_eq_true, decide_eq_true_eq, decide_eq_true_eq, decide_eq_true_eq] at hf2
    obtain ⟨⟨h1, h2⟩, h3, h4⟩ := hf2
    have hB : bitsB vs = packB vs := by unfold bitsB; rw [h4, decide_eq_true (show vs.length ≤ 64 by omega)]; rfl
    have hz : (packB vs).size = (vs.length + 7) / 8 := by have := packL_length vs; simpa [packB, ByteArray.size] using this
    have := tail_15 a m vs p c w (by omega) (by omega) (fun h => by cases h) (by rw [hB, hz]; omega) hr
    rw [hB, show twoB m ++ oneB ((packB vs).size : Int) ++ packB vs = tailB ⟨15, a, m, vs⟩ from tailB_eq (by simp [twoB, oneB, packB, ByteArray.size, Ak.tail, countedL])] at this
    exact this
  · have hf2 : ((decide (1 ≤ m) && decide (m ≤ 4)) && (decide ((vs.length : Int) = m) && vs.all wordB)) = true := hf
    rw [Bool.and_eq_true, Bool.and_eq_true, Bool.and_eq_true, decide_eq_true_eq, decide_eq_true_eq, decide_eq_true_eq] at hf2
    obtain ⟨⟨h1, h2⟩, h3, h4⟩ := hf2
    have hz := wordsB_size vs
    have := tail_16 a m vs p c w (by omega) (by omega) (fun _ => h4) (by omega) hr
    rw [show twoB m ++ oneB ((wordsB vs).size : Int) ++ wordsB vs = tailB ⟨16, a, m, vs⟩ from tailB_eq (by simp [twoB, oneB, wordsB, ByteArray.size, Ak.tail, countedL])] at this
    exact this
end Go.Proofs.Ytpnkpfamhppapaa
