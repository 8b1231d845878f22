/- PLAIN FACTS of what is served; a part of an own row set. -/
import Derived.Test.YtfpibedloodjlabDoorSvE
import Derived.Test.YtfpibedloodjlabDoorPlainAsk
import Derived.Test.YtfpibedloodjlabDoorBits
import Derived.Test.YtfpibedloodjlabDoorWire
import Derived.Laws.CopyOwn
import Derived.Deep.RegionHeld3
import Derived.Deep.QuietTactic
import Derived.BigQuiet
namespace Go.Proofs.YtfpibedloodjlabDoor
open Go.RowKit
set_option linter.unusedVariables false
set_option linter.unusedSimpArgs false

theorem outA_q {s : ByteArray} (h : (outA s).2 = 0) : (outA s).1.right = true ∧ askB (outA s).1 = s ∧ 5 ≤ s.size := by
  unfold outA at h ⊢
  by_cases h8 : 8000 < s.size
  · rw [if_pos h8] at h; cases h
  · rw [if_neg h8] at h ⊢
    by_cases h5 : s.size < 5
    · rw [if_pos h5] at h; cases h
    · rw [if_neg h5] at h ⊢
      unfold outOf at h ⊢
      by_cases hq : (readS s).right = true ∧ askB (readS s) = s
      · rw [if_pos hq]; exact ⟨hq.1, hq.2, by omega⟩
      · rw [if_neg hq] at h; cases h
theorem look_fit {q : Ak} (hR : q.right = true) (h : q.c = 1 ∨ q.c = 3) : q.vs = [] ∧ 1 ≤ q.m ∧ q.m ≤ 64 ∧ (q.c = 3 → q.m ≤ 8) := by
  unfold Ak.right at hR
  rw [Bool.and_eq_true] at hR
  have hf := hR.2
  rcases h with e | e <;> simp [Ak.fit, e] at hf <;> simp [e] <;> refine ⟨hf.2, ?_⟩ <;> omega
theorem set_fit {q : Ak} (hR : q.right = true) (h : ¬ (q.c = 1 ∨ q.c = 3)) : (q.vs.length : Int) = q.m ∧ 1 ≤ q.m ∧ q.m ≤ 16 ∧ (coilB q.c = true → q.vs.all bitB = true) ∧ (coilB q.c = false → q.vs.all wordB = true) := by
  have hc := Ak.codes hR
  unfold Ak.right at hR
  rw [Bool.and_eq_true] at hR
  have hf := hR.2
  unfold coilB
  rcases hc with e | e | e | e | e | e
  · exact absurd (.inl e) h
  · exact absurd (.inr e) h
  · simp only [Ak.fit, e] at hf ⊢
    simp only [Bool.and_eq_true, decide_eq_true_eq, reduceIte, Int.reduceEq] at hf
    refine ⟨by omega, by omega, by omega, fun _ => hf.2.2, fun h => by simp at h⟩
  · simp only [Ak.fit, e] at hf ⊢
    simp only [Bool.and_eq_true, decide_eq_true_eq, reduceIte, Int.reduceEq] at hf
    refine ⟨by omega, by omega, by omega, fun h => by simp at h, fun _ => hf.2.2⟩
  · simp only [Ak.fit, e] at hf ⊢
    simp only [Bool.and_eq_true, decide_eq_true_eq, reduceIte, Int.reduceEq] at hf
    refine ⟨by omega, by omega, by omega, fun _ => hf.2.2, fun h => by simp at h⟩
  · simp only [Ak.fit, e] at hf ⊢
    simp only [Bool.and_eq_true, decide_eq_true_eq, reduceIte, Int.reduceEq] at hf
    refine ⟨by omega, by omega, by omega, fun h => by simp at h, fun _ => hf.2.2⟩
theorem look_len {t : Tb} {q : Ak} (ha : 0 ≤ q.a) (hm : 0 ≤ q.m) (h : thereB t q = true) : (t.look q).length = q.m.toNat := by
  unfold thereB at h
  rw [decide_eq_true_eq] at h
  unfold Tb.look
  rw [List.length_take, List.length_drop]
  omega
theorem part_all {p : Int → Bool} {l : List Int} (h : l.all p = true) (a m : Nat) : ((l.drop a).take m).all p = true := by
  rw [List.all_eq_true] at *
  exact fun x hx => h x (List.mem_of_mem_drop (List.mem_of_mem_take hx))
theorem look_vals {t : Tb} {q : Ak} (hT : t.right = true) (hR : q.right = true) (hc : q.c = 1 ∨ q.c = 3) (ht : thereB t q = true) : (t.look q).length ≤ 64 ∧ (coilB q.c = false → (t.look q).all wordB = true) ∧ (valsB q.c (t.look q)).size ≤ 100 := by
  obtain ⟨hv, h1, h64, h8⟩ := look_fit hR hc
  have ha : 0 ≤ q.a := by unfold Ak.right at hR; rw [Bool.and_eq_true] at hR; exact ((wordB_iff _).1 hR.1).1
  have hl := look_len ha (by omega) ht
  obtain ⟨⟨_, _⟩, _, hw⟩ := (Tb.right_iff t).1 hT
  have hwd : coilB q.c = false → (t.look q).all wordB = true := fun h => by
    unfold Tb.look Tb.cells
    rw [h]
    exact part_all hw _ _
  refine ⟨by omega, hwd, ?_⟩
  unfold valsB
  split
  · unfold bitsB
    split
    · have := packL_length (t.look q)
      have e : (packB (t.look q)).size = ((t.look q).length + 7) / 8 := by simpa [packB, ByteArray.size] using this
      rw [e]; omega
    · simp [ByteArray.size]
  · rename_i hn
    have h3 : q.c = 3 := by
      rcases hc with e | e
      · rw [e] at hn; exact absurd rfl hn
      · exact e
    rw [wordsB_size, hl]
    have := h8 h3
    omega
/-- the row behind a copy -/
theorem OwnI.put {w : World} {base g c : Nat} {zs : List Int} (h : OwnI w base (.slice (some ⟨g, 0, none⟩) zs.length c) zs) (off : Nat) (vs : List Int) (hfit : off + vs.length ≤ zs.length) :
    ∃ cur : Array Value, w.heap[g]? = some (.cells cur 2 (0, 0)) ∧ off + (vs.map (Value.int .i64)).length ≤ cur.size ∧
      OwnI (w.setRow g (cur.toList.take off ++ (vs.map (Value.int .i64) ++ cur.toList.drop (off + (vs.map (Value.int .i64)).length))).toArray) base (.slice (some ⟨g, 0, none⟩) zs.length c) (putL zs off vs) ∧
      w.grownBy (w.setRow g (cur.toList.take off ++ (vs.map (Value.int .i64) ++ cur.toList.drop (off + (vs.map (Value.int .i64)).length))).toArray) (some g) := by
  obtain ⟨hx, ⟨h1, _⟩ | ⟨g', cap, cur, h1, hb, hg, h2, h3, h4, ht⟩⟩ := h
  · cases h1
  · cases h1
    have hcs : zs.length ≤ cur.size := by omega
    refine ⟨cur, hg, by rw [List.length_map]; omega, ⟨by simp, .inr ⟨g, c, _, by rw [putL_length zs off vs hfit], hb, setRow_heap w g cur _ _ _ hg, by rw [putL_length zs off vs hfit]; exact h2, h3, ?_, ?_⟩⟩, ⟨rfl, rfl, rfl, by simp [World.setRow], fun k _ hk => setRow_other w g k _ (fun e => hk (by rw [e]))⟩⟩
    · simp; omega
    · rw [putL_length zs off vs hfit, Nat.mul_one]
      rw [Nat.mul_one] at ht
      have hL : cur.toList = zs.map (Value.int .i64) ++ cur.toList.drop zs.length := by rw [← ht]; exact (List.take_append_drop _ _).symm
      generalize cur.toList.drop zs.length = Rr at hL
      rw [hL]
      have hVl : (vs.map (Value.int .i64)).length = vs.length := List.length_map _
      have e1 : (zs.map (Value.int .i64) ++ Rr).take off = (zs.map (Value.int .i64)).take off := List.take_append_of_le_length (by rw [List.length_map]; omega)
      have e2 : (zs.map (Value.int .i64) ++ Rr).drop (off + (vs.map (Value.int .i64)).length) = (zs.map (Value.int .i64)).drop (off + vs.length) ++ Rr := by rw [hVl]; exact List.drop_append_of_le_length (by rw [List.length_map]; omega)
      rw [e1, e2]
      have e3 : (zs.map (Value.int .i64)).take off ++ (vs.map (Value.int .i64) ++ ((zs.map (Value.int .i64)).drop (off + vs.length) ++ Rr)) = (putL zs off vs).map (Value.int .i64) ++ Rr := by
        unfold putL
        simp only [List.map_append, List.map_take, List.map_drop, List.append_assoc]
      have hpl := putL_length zs off vs hfit
      show List.take zs.length (_ ++ (_ ++ (_ ++ Rr))) = _
      rw [e3, List.take_append_of_le_length (by rw [List.length_map]; omega), List.take_of_length_le (by rw [List.length_map]; omega)]
theorem wpList_copy_put {w : World} {ops : Array Oper} {rest : List Oper} {o : Oper} {a : Act} {Q : Exit → Act → World → Prop} (hgd : o.guard = none) (d s : Operand)
    (ho : o.op = .call { callee := .builtin .copy, args := #[d, s], argTypes := #[22, 22] }) (base g c off b2 : Nat) (zs vs : List Int) (pv : Option Addr) (cv m : Nat) (hm : m = vs.length) (h0 : 0 < vs.length)
    (hd : a.eval d = .slice (some ⟨g, off, none⟩) m m) (hs : a.eval s = .slice pv vs.length cv) (hown : OwnI w base (.slice (some ⟨g, 0, none⟩) zs.length c) zs) (hsrc : OwnI w b2 (.slice pv vs.length cv) vs) (hfit : off + vs.length ≤ zs.length)
    (h : ∀ w', OwnI w' base (.slice (some ⟨g, 0, none⟩) zs.length c) (putL zs off vs) → w.grownBy w' (some g) → wpList Tryd.prog ops Q rest (a.put o.dst (goInt vs.length)) w') :
    wpList Tryd.prog ops Q (o :: rest) a w := by
  subst hm
  obtain ⟨i0, hi, hz0, hz1, hz2⟩ := info_parts info64
  obtain ⟨cur, hg, hf, hO, hG⟩ := hown.put off vs hfit
  obtain ⟨g2, e2, _⟩ := hsrc.cell 0 h0
  subst e2
  have := wpList_copy_own (P := Tryd.prog) (w := w) (ops := ops) (rest := rest) (o := o) (a := a) (Q := Q) hgd d s 22 22 ho 2 Tryd.underlying22 (by rw [hi]; simp [hz1]) g off vs.length vs.length ⟨g2, 0, none⟩ vs.length cv hd hs cur 2 hg (vs.map (Value.int .i64)) (by rw [List.length_map]; exact (Nat.min_self _).symm) (ownI_src hsrc) hf (by intro v hv; obtain ⟨x, _, rfl⟩ := List.mem_map.1 hv; rfl)
  refine this ?_
  rw [List.length_map] at *
  exact h _ hO hG
end Go.Proofs.YtfpibedloodjlabDoor
/- TABLES that are right: the program's and the model's. -/
namespace Go.Proofs.YtfpibedloodjlabDoor
open Go.RowKit
set_option linter.unusedVariables false
set_option linter.unusedSimpArgs false

theorem upTo_bit : upTo 1 = bitB := rfl
theorem upTo_word : upTo 65535 = wordB := rfl
set_option maxRecDepth 100000 in
set_option maxHeartbeats 800000 in
theorem tableRight_any (t : Tb) (p1 p2 : Option Addr) (c1 c2 : Nat) (w : World) (hl1 : t.cs.length ≤ 10000000) (hl2 : t.rs.length ≤ 10000000) (h1 : RowI w (.slice p1 t.cs.length c1) t.cs) (h2 : RowI w (.slice p2 t.rs.length c2) t.rs) :
    Calls Tryd.prog 17 #[.agg #[.slice p1 t.cs.length c1, .slice p2 t.rs.length c2]] w fun e w' => e = .returned (.bool t.right) ∧ Below w.heap.size w w' := by
  have HC : Hid (∀ W, Below w.heap.size w W → Calls Tryd.prog 37 #[.slice p1 t.cs.length c1, .int .i64 1] W fun e w' => e = .returned (.bool (t.cs.all bitB)) ∧ W = w') := fun W hW => allUpTo_any _ t.cs 1 W hl1 (h1.below hW)
  have HR : Hid (∀ W, Below w.heap.size w W → Calls Tryd.prog 37 #[.slice p2 t.rs.length c2, .int .i64 65535] W fun e w' => e = .returned (.bool (t.rs.all wordB)) ∧ W = w') := fun W hW => allUpTo_any _ t.rs 65535 W hl2 (h2.below hW)
  have hA0 := all_alloc w (.cells #[.slice p1 t.cs.length c1, .slice p2 t.rs.length c2] 26)
  unfold Tb.right
  generalize t.cs.all bitB = B1 at HC ⊢
  generalize t.rs.all wordB = B2 at HR ⊢
  clear h1 h2
  generalize t.cs.length = n1 at *
  generalize t.rs.length = n2 at *
  by_cases hn1 : n1 ≤ 24
  · cases B1 with
    | true =>
      by_cases hn2 : n2 ≤ 12
      · go_enter Tryd.func17, Tryd.ntmps17
        go_wp2_with (first
          | (have _ := hD; go_at_call 37; refine (HR.out _ hA0).mono ?_; rintro e w1 ⟨rfl, rfl⟩)
          | (go_at_call 37; refine (HC.out _ hA0).mono ?_; rintro e w1 ⟨rfl, rfl⟩; have hD : Hid True := trivial))
        go_ret
        exact ⟨ret_bool (by simp [hn1, hn2]), hA0⟩
      · go_enter Tryd.func17, Tryd.ntmps17
        go_wp2_with (first
          | (go_at_call 37; refine (HC.out _ hA0).mono ?_; rintro e w1 ⟨rfl, rfl⟩))
        go_ret
        exact ⟨ret_bool (by simp [hn1, hn2]), hA0⟩
    | false =>
      go_enter Tryd.func17, Tryd.ntmps17
      go_wp2_with (first
        | (go_at_call 37; refine (HC.out _ hA0).mono ?_; rintro e w1 ⟨rfl, rfl⟩))
      go_ret
      exact ⟨ret_bool (by simp [hn1]), hA0⟩
  · go_enter Tryd.func17, Tryd.ntmps17
    go_wp2
    go_ret
    exact ⟨ret_bool (by simp [hn1]), hA0⟩
set_option maxRecDepth 100000 in
set_option maxHeartbeats 800000 in
theorem specTableRight_any (t : Tb) (p1 p2 : Option Addr) (c1 c2 : Nat) (w : World) (hl1 : t.cs.length ≤ 10000000) (hl2 : t.rs.length ≤ 10000000) (h1 : RowI w (.slice p1 t.cs.length c1) t.cs) (h2 : RowI w (.slice p2 t.rs.length c2) t.rs) :
    Calls Tryd.prog 14 #[.agg #[.slice p1 t.cs.length c1, .slice p2 t.rs.length c2]] w fun e w' => e = .returned (.bool t.right) ∧ Below w.heap.size w w' := by
  have HC : Hid (∀ W, Below w.heap.size w W → Calls Tryd.prog 32 #[.slice p1 t.cs.length c1, .int .i64 24] W fun e w' => e = .returned (.bool (t.cs.all bitB && decide (t.cs.length ≤ 24))) ∧ W = w') := fun W hW => l04Bits_any _ t.cs 24 W hl1 (by omega) (h1.below hW)
  have HW : Hid (∀ (n : Int) (W : World), Calls Tryd.prog 31 #[.int .i64 n] W fun e w' => e = .returned (.bool (wordB n)) ∧ W = w') := fun n W => l02Word_any n W
  have HR : Hid _ := fun W (hW : Below w.heap.size w W) => h2.below hW
  have hA0 := all_alloc w (.cells #[.slice p1 t.cs.length c1, .slice p2 t.rs.length c2] 26)
  have hX : Hid _ := heap_alloc_new w (.cells #[.slice p1 t.cs.length c1, .slice p2 t.rs.length c2] 26)
  have hr : t.right = (t.cs.all bitB && decide (t.cs.length ≤ 24) && decide (t.rs.length ≤ 12) && t.rs.all wordB) := by
    unfold Tb.right
    rw [Bool.and_comm (decide (t.cs.length ≤ 24)), Bool.and_assoc, Bool.and_assoc, Bool.and_assoc]
  rw [hr]
  generalize (t.cs.all bitB && decide (t.cs.length ≤ 24)) = B1 at HC ⊢
  clear h1 h2 hr
  generalize t.cs.length = n1 at *
  generalize t.rs = rs at *
  go_enter Tryd.func14, Tryd.ntmps14
  go_wp2
  generalize w.alloc (.cells #[.slice p1 n1 c1, .slice p2 rs.length c2] 26) = A at hA0 hX ⊢
  have x0 := cellW hX.out 0 _ rfl
  have x1 := cellW hX.out 1 _ rfl
  go_loopw [3] (fun i wr => ∃ k : Nat, k ≤ rs.length ∧ i = .int .i64 k ∧ (rs.take k).all wordB = true ∧ Below A.heap.size A wr) (fun i _ => rs.length - (intOf i).toNat)
  case atStart => exact ⟨0, Nat.zero_le _, rfl, rfl, Below.refl _ _⟩
  case round =>
    obtain ⟨k, hk, rfl, hall, hbel⟩ := hrel
    have y0 := x0 _ hbel
    have y1 := x1 _ hbel
    by_cases hlt : k < rs.length
    · obtain ⟨p', c', hsl, hcell⟩ := HR.out wr (keepB hA0 (Nat.le_refl _) hbel)
      obtain ⟨g, hp, lg, qc⟩ := hcell k hlt
      cases hsl
      subst hp
      have hst : (rs.take (k + 1)).all wordB = wordB rs[k] := by rw [List.take_succ_eq_append_getElem hlt, List.all_append, hall]; simp
      have hno : wordB rs[k] = false → rs.all wordB = false := fun h => by
        rw [List.all_eq_false]
        exact ⟨rs[k], List.getElem_mem hlt, by simp [h]⟩
      have HWk := HW.out rs[k]
      generalize rs[k] = z at qc hst hno HWk
      have HWk' : Hid _ := HWk
      clear HWk hcell
      generalize wordB z = b at hst hno HWk'
      cases b with
      | true =>
        go_wp2_with (go_at_call 31; refine (HWk'.out _).mono ?_; rintro e w1 ⟨rfl, rfl⟩)
        go_roundw
        case rel => exact ⟨k + 1, by omega, by go_num, hst, hbel⟩
        case measure => simp [intOf]; omega
      | false =>
        have hn := hno rfl
        clear hno
        go_wp2_with (go_at_call 31; refine (HWk'.out _).mono ?_; rintro e w1 ⟨rfl, rfl⟩)
        go_ret
        exact ⟨ret_bool (by rw [hn]; simp), keepB hA0 (Nat.le_refl _) hbel⟩
    · obtain rfl : k = rs.length := by omega
      rw [List.take_length] at hall
      have hB := keepB hA0 (Nat.le_refl _) hbel
      cases B1 with
      | true =>
        go_wp2_with (go_at_call 32; refine (HC.out _ hB).mono ?_; rintro e w1 ⟨rfl, rfl⟩)
        go_ret
        exact ⟨ret_bool (by rw [hall]; simp <;> omega), hB⟩
      | false =>
        go_wp2_with (go_at_call 32; refine (HC.out _ hB).mono ?_; rintro e w1 ⟨rfl, rfl⟩)
        go_ret
        exact ⟨ret_bool (by rw [hall]; simp <;> omega), hB⟩
end Go.Proofs.YtfpibedloodjlabDoor
