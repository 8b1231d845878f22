/- BITS OF BYTES: the program's BitsRead and the model's. -/
import Derived.Test.YtfpibedloodjlabDoorBits
import Derived.Test.YtfpibedloodjlabDoorPlainGet
import Derived.Test.YtfpibedloodjlabDoorWire
import Derived.BigQuiet
import Derived.Deep.QuietTactic
namespace Go.Proofs.YtfpibedloodjlabDoor
open Go.RowKit
set_option linter.unusedVariables false
set_option linter.unusedSimpArgs false

def bitsR (s : ByteArray) (m : Int) : List Int := if (1 ≤ m ∧ m ≤ 64) ∧ (s.size : Int) = (m + 7) / 8 then unpackL s m.toNat else []
/-- the row in the making -/
def unAt (s : ByteArray) (m k : Nat) : List Int := (unpackL s m).take k ++ List.replicate (m - k) 0
theorem unAt_length (s : ByteArray) (m k : Nat) (h : k ≤ m) : (unAt s m k).length = m := by unfold unAt; rw [List.length_append, List.length_take, unpackL_length, List.length_replicate]; omega
theorem unAt_step (s : ByteArray) (m k : Nat) (h : k < m) (x : Int) (hx : x = ((byteAt s (k / 8) / 2 ^ (k % 8) % 2 : Nat) : Int)) : (unAt s m k).set k x = unAt s m (k + 1) := by
  have hl : k < (unpackL s m).length := by rw [unpackL_length]; exact h
  unfold unAt
  have := set_midI (l := (unpackL s m).take k) (m := List.replicate (m - k) (0 : Int)) (c := x) (by intro e; have := congrArg List.length e; simp at this; omega)
  rw [List.length_take, Nat.min_eq_left (by omega)] at this
  rw [this, List.take_succ_eq_append_getElem hl, unpackL_get, hx, List.drop_replicate, Nat.sub_sub]
theorem and_table : ∀ r : Fin 8, ∀ o : Fin 256, wrap64 (bits BinOp.and IntKind.u8 ((o.val : Int) / 2 ^ r.val) 1) = ((o.val / 2 ^ r.val % 2 : Nat) : Int) := by decide +kernel
set_option maxRecDepth 100000 in
set_option maxHeartbeats 800000 in
theorem bitsRead_yes (s : ByteArray) (m : Nat) (w : World) (hm : 1 ≤ m ∧ m ≤ 64) (hs : s.size = (m + 7) / 8) :
    Calls Tryd.prog 73 #[.string s, .int .i64 m] w fun e w' => ∃ v, e = .returned v ∧ OwnI w' w.heap.size v (unpackL s m) ∧ Below w.heap.size w w' := by
  obtain ⟨i0, hi, hz0, hz1, hz2⟩ := info_parts info64
  have HSZ : Hid (s.size = (m + 7) / 8) := hs
  have e8 : ((m : Int) + 7) / 8 = (s.size : Int) := by omega
  have e9 : ((s.size : Int) != (s.size : Int)) = false := by simp
  have hs8 : s.size ≤ 8 := by omega
  clear hs
  go_enter Tryd.func73, Tryd.ntmps73
  go_wp2_with (first
    | (go_at_call 71; refine (bytesFor_any m _ (by omega) (by omega)).mono ?_; rintro e w1 ⟨rfl, rfl⟩; rw [e8])
    | (at_make; refine wpList_make_full _ rfl (.tmp 20) (.tmp 20) 22 rfl w.heap.size 2 i0 (.int .i64 0) 1 Tryd.underlying22 hi hz0 hz1 .i64 .i64 _ _ m rfl rfl (by omega) (by omega) (by rw [hz2]; omega) (by unfold maxLen; omega) (Nat.le_refl _) ?_; intro w1 hown1 hgrow1; have hB1 := (Below.refl w.heap.size w).grown hgrow1 (Nat.le_refl _) (fun k e => by cases e); rw [zeros_list] at hown1))
  have HO1 : Hid (OwnI w1 w.heap.size (.slice (some ⟨w.heap.size, 0, none⟩) m m) (unAt s m 0)) := by
    show OwnI _ _ _ _
    unfold unAt
    rw [List.take_zero, List.nil_append, Nat.sub_zero]
    unfold OwnI
    rw [List.length_replicate]
    exact hown1
  clear hown1 hgrow1
  go_loopw [24] (fun i wr => ∃ k : Nat, k ≤ m ∧ i = .int .i64 k ∧ Hid (OwnI wr w.heap.size (.slice (some ⟨w.heap.size, 0, none⟩) m m) (unAt s m k)) ∧ Below w.heap.size w wr) (fun i _ => m - (intOf i).toNat)
  case atStart => exact ⟨0, Nat.zero_le _, rfl, HO1.out, hB1⟩
  case round =>
    obtain ⟨k, hk, rfl, HW, hbel⟩ := hrel
    have hlen : (unAt s m k).length = m := unAt_length s m k hk
    by_cases hlt : k < m
    · have hk8 : k < (unAt s m k).length := by rw [hlen]; exact hlt
      obtain ⟨g, hpg, _, hgl, hq, hf⟩ := HW.out.cell k hk8
      cases hpg
      have hks : k / 8 < s.size := by have := HSZ.out; omega
      have HST : Hid _ := unAt_step s m k hlt
      have HBA : Hid _ := byteAt_eq s (k / 8) hks
      have hb := u8_lt s[k / 8]
      have h1 := fun x => HW.out.set k hk8 x
      generalize (unAt s m k)[k] = old at hq
      have hmod : (k : Int).tmod 8 = ((k % 8 : Nat) : Int) := by rw [Int.tmod_eq_emod_of_nonneg (by omega)]; omega
      have hdiv : (k : Int).tdiv 8 = ((k / 8 : Nat) : Int) := by rw [Int.tdiv_eq_ediv_of_nonneg (by omega)]; omega
      go_wp2
      go_roundw
      case rel => exact ⟨k + 1, by omega, by go_num, (show OwnI _ _ _ _ by have e := and_table ⟨k % 8, by omega⟩ ⟨s[k / 8].toNat, hb⟩; dsimp only at e; rw [← HBA.out] at e; rw [← HST.out _ e]; rw [HBA.out]; exact h1 _), hbel.setCell (Nat.le_refl _) _⟩
      case measure => simp [intOf]; omega
    · obtain rfl : k = m := by omega
      go_wp2
      go_ret
      refine ⟨_, rfl, ?_, hbel⟩
      have := HW.out
      unfold unAt at this
      rwa [Nat.sub_self, List.replicate_zero, List.append_nil, List.take_of_length_le (by rw [unpackL_length]; exact Nat.le_refl _)] at this
set_option maxRecDepth 100000 in
set_option maxHeartbeats 800000 in
theorem bitsRead_no (s : ByteArray) (m : Int) (w : World) (hs : s.size ≤ 9223372036854775807) (hw : (Lit.int .i64 m).wf = true) (h : ¬ ((1 ≤ m ∧ m ≤ 64) ∧ (s.size : Int) = (m + 7) / 8)) :
    Calls Tryd.prog 73 #[.string s, .int .i64 m] w fun e w' => e = .returned (.slice none 0 0) ∧ w = w' := by
  by_cases h1 : m < 1
  · clear h
    go_enter Tryd.func73, Tryd.ntmps73
    go_wp2
    go_ret
    exact ⟨rfl, rfl⟩
  by_cases h2 : 64 < m
  · clear h
    go_enter Tryd.func73, Tryd.ntmps73
    go_wp2
    go_ret
    exact ⟨rfl, rfl⟩
  have e9 : ((s.size : Int) != (m + 7) / 8) = true := by simp; omega
  clear h
  go_enter Tryd.func73, Tryd.ntmps73
  go_wp2_with (go_at_call 71; refine (bytesFor_any m _ (by omega) (by omega)).mono ?_; rintro e w1 ⟨rfl, rfl⟩)
  go_ret
  exact ⟨rfl, rfl⟩
theorem bitsRead_any (s : ByteArray) (m : Int) (w : World) (hs : s.size ≤ 9223372036854775807) (hw : (Lit.int .i64 m).wf = true) :
    Calls Tryd.prog 73 #[.string s, .int .i64 m] w fun e w' => ∃ v, e = .returned v ∧ OwnI w' w.heap.size v (bitsR s m) ∧ Below w.heap.size w w' := by
  unfold bitsR
  by_cases h : (1 ≤ m ∧ m ≤ 64) ∧ (s.size : Int) = (m + 7) / 8
  · rw [if_pos h]
    obtain ⟨k, rfl⟩ : ∃ k : Nat, m = (k : Int) := ⟨m.toNat, by omega⟩
    rw [Int.toNat_natCast]
    exact bitsRead_yes s k w (by omega) (by omega)
  · rw [if_neg h]
    refine (bitsRead_no s m w hs hw h).mono ?_
    rintro e w' ⟨rfl, rfl⟩
    exact ⟨_, rfl, OwnI.nil _ _, Below.refl _ _⟩
/-- numbers put behind one another -/
theorem OwnI.of {w : World} {base : Nat} {v : Value} {zs : List Int} {n : Nat} {xs : List Value} (h : w.ownsRow base 2 1 v n xs) (hn : n = zs.length) (hx : xs = zs.map (Value.int .i64)) : OwnI w base v zs := by subst hn; subst hx; exact h
theorem own_madeI (w : World) (base : Nat) (hb : base ≤ w.heap.size) : OwnI (w.alloc (.cells #[] 2)) base (.slice (some ⟨w.heap.size, 0, none⟩) 0 0) [] :=
  World.ownsRow_made w #[] 0 hb (by decide) rfl
theorem cells_newI (w : World) (xs : List Value) (t : TypeId) : ∀ j u, xs[j]? = some u → (w.alloc (.cells xs.toArray t)).cell? ((⟨w.heap.size, 0, none⟩ : Addr).add j) = some u := by
  intro j u hu
  have hn := heap_alloc_new w (.cells xs.toArray t)
  have e : (⟨w.heap.size, 0, none⟩ : Addr).add j = ⟨w.heap.size, j, none⟩ := by unfold Addr.add; split <;> simp_all
  rw [e]
  simp only [World.cell?, hn]
  simpa using hu
theorem cells_newG (w : World) (xs : List Value) (t : TypeId) (g : Nat) (hg : g = w.heap.size) : ∀ j u, xs[j]? = some u → (w.alloc (.cells xs.toArray t)).cell? ((⟨g, 0, none⟩ : Addr).add j) = some u := by subst hg; exact cells_newI w xs t
theorem bit_div {b r : Nat} (hb : b < 256) : (wrap64 ((b : Int) / ((2 ^ r : Nat) : Int))).tmod 2 = ((b / 2 ^ r % 2 : Nat) : Int) := by
  have e : (b : Int) / ((2 ^ r : Nat) : Int) = ((b / 2 ^ r : Nat) : Int) := by simp
  have h : b / 2 ^ r ≤ b := Nat.div_le_self _ _
  rw [e]
  generalize b / 2 ^ r = q at h
  have e2 : wrap64 (q : Int) = q := by unfold wrap64; omega
  rw [e2, Int.tmod_eq_emod_of_nonneg (by omega)]
  omega
set_option maxRecDepth 100000 in
set_option maxHeartbeats 800000 in
theorem l04Unpack_any (s : ByteArray) (m : Nat) (w : World) (hm : m ≤ 64) (hs : (m + 7) / 8 ≤ s.size) (hz : s.size ≤ 9223372036854775807) :
    Calls Tryd.prog 61 #[.string s, .int .i64 m] w fun e w' => ∃ v, e = .returned v ∧ OwnI w' w.heap.size v (unpackL s m) ∧ Below w.heap.size w w' := by
  obtain ⟨i0, hi, hz0, hz1, hz2⟩ := info_parts info64
  go_enter Tryd.func61, Tryd.ntmps61
  go_wp2
  go_loopw [5, 6] (fun v i wr => ∃ k : Nat, k ≤ m ∧ i = .int .i64 k ∧ Hid (OwnI wr w.heap.size v ((unpackL s m).take k)) ∧ Below w.heap.size w wr) (fun _ i _ => m - (intOf i).toNat)
  case atStart => exact ⟨0, Nat.zero_le _, rfl, own_madeI w _ (Nat.le_refl _), (Below.refl _ _).alloc (Nat.le_refl _) _⟩
  case round =>
    obtain ⟨k, hk, rfl, HW, hbel⟩ := hrel
    obtain ⟨p, c, hv⟩ := HW.out.shape
    have hlk : ((unpackL s m).take k).length = k := by rw [List.length_take, unpackL_length]; omega
    rw [hlk] at hv
    subst hv
    by_cases hlt : k < m
    · have hks : k / 8 < s.size := by omega
      have HBA : Hid _ := byteAt_eq s (k / 8) hks
      have hb := u8_lt s[k / 8]
      have hsz := hbel.size
      have hl2 : k < (unpackL s m).length := by rw [unpackL_length]; exact hlt
      have HTK : Hid ((unpackL s m).take (k + 1) = (unpackL s m).take k ++ [((s[k / 8].toNat / 2 ^ (k % 8) % 2 : Nat) : Int)]) := by
        show _ = _
        rw [List.take_succ_eq_append_getElem hl2, unpackL_get, HBA.out]
      have hmod : (k : Int).tmod 8 = ((k % 8 : Nat) : Int) := by rw [Int.tmod_eq_emod_of_nonneg (by omega)]; omega
      have hdiv : (k : Int).tdiv 8 = ((k / 8 : Nat) : Int) := by rw [Int.tdiv_eq_ediv_of_nonneg (by omega)]; omega
      have hk9 : k % 8 < 8 := by omega
      have HB2 : Hid _ := @bit_div s[k / 8].toNat (k % 8) hb
      have qn : (wr.alloc (.cells #[.int .i64 1, .int .i64 2, .int .i64 4, .int .i64 8, .int .i64 16, .int .i64 32, .int .i64 64, .int .i64 128] 2)).cell? ⟨wr.heap.size, k % 8, none⟩ = some (.int .i64 ((2 ^ (k % 8) : Nat) : Int)) := by
        simp only [World.cell?, heap_alloc_new]
        exact pow_cell _ (by omega)
      generalize hP : ((2 ^ (k % 8) : Nat) : Int) = P at qn HB2
      have hP0 : 0 < P := by rw [← hP]; have := Nat.pow_pos (n := k % 8) (show 0 < 2 by decide); omega
      have hown : OwnI (wr.alloc (.cells #[.int .i64 1, .int .i64 2, .int .i64 4, .int .i64 8, .int .i64 16, .int .i64 32, .int .i64 64, .int .i64 128] 2)) w.heap.size (.slice p k c) ((unpackL s m).take k) := HW.out.below ((Below.refl _ _).alloc (Nat.le_refl _) _)
      have HOW : Hid (OwnI _ _ _ _) := hown
      clear hown hP
      go_wp2_with (at_builtin; refine wpList_append_own _ rfl (.tmp 19) (.tmp 28) 22 rfl w.heap.size 2 i0 (.int .i64 0) 1 8 Tryd.underlying22 hi hz0 hz1 hz2 rfl (by decide) _ _ _ rfl (World.ownsRow.alloc HOW.out _) ⟨wr.heap.size + 1, 0, none⟩ 1 1 [_] rfl rfl (cells_newG _ _ _ _ (by simp)) (by intro x hx; simp at hx; subst hx; rfl) (by unfold maxLen; omega) (by omega) (by simp; omega) ?_; intro v' w2 hown' hgrow _)
      go_roundw
      case rel =>
        have hbl : Below w.heap.size w w2 := ((hbel.alloc (by omega) _).alloc (by simp; omega) _).grown hgrow (by simp; omega) (fun k e => (World.ownsRow.lt HOW.out k e).1)
        refine ⟨k + 1, by omega, by go_num, (show OwnI _ _ _ _ from ?_), hbl⟩
        rw [HTK.out]
        refine OwnI.of hown' (by rw [List.length_append]; rfl) ?_
        rw [List.map_append, HB2.out]
        rfl
      case measure => simp [intOf]; omega
    · obtain rfl : k = m := by omega
      go_wp2
      go_ret
      refine ⟨_, rfl, ?_, hbel⟩
      have := HW.out
      rwa [List.take_of_length_le (by rw [unpackL_length]; exact Nat.le_refl _)] at this
end Go.Proofs.YtfpibedloodjlabDoor
/- WORDS OF BYTES: the program's wordsOf and the model's l04Word; and the program's small readers. -/
namespace Go.Proofs.YtfpibedloodjlabDoor
open Go.RowKit
set_option linter.unusedVariables false
set_option linter.unusedSimpArgs false

theorem index_at (s : ByteArray) (i : Nat) (h : i < s.size) (x : Int) (hx : x = (i : Int)) (w : World) : (Instr.index 9 (.string s) (.int .i64 x)).run Tryd.prog w = .ok (.int .u8 (s[i].toNat : Int)) w := by
  subst hx
  rw [run_index_string w 9 s .i64 _ Tryd.underlying9, dif_pos (by omega)]
  simp
theorem wrap64_small (n : Nat) (h : n < 9223372036854775808) : IntKind.i64.wrap (n : Int) = (n : Int) := by
  have e : (n : Int) % 2 ^ 64 = n := Int.emod_eq_of_lt (by omega) (by omega)
  simp only [IntKind.wrap, IntKind.bits, IntKind.signed, e]
  rw [if_neg]
  simp
  omega
theorem word_or (x y : Nat) (hx : x < 256) (hy : y < 256) : bits BinOp.or IntKind.i64 ((x : Int) * 256) (y : Int) = ((256 * x + y : Nat) : Int) := by
  rw [show (x : Int) * 256 = ((x * 256 : Nat) : Int) by omega]
  show IntKind.i64.wrap ((BitVec.ofInt 64 ((x * 256 : Nat) : Int) ||| BitVec.ofInt 64 (y : Int)).toNat : Int) = _
  rw [BitVec.toNat_or, ofInt_u64 _ (by omega), ofInt_u64 y (by omega), nat_join8 (x * 256) y (by omega) hy, wrap64_small _ (by omega)]
  omega
def wdAt (s : ByteArray) (m k : Nat) : List Int := (wordsAt s 0 m).take k ++ List.replicate (m - k) 0
theorem wordsAt_get (s : ByteArray) (i n k : Nat) (h : k < (wordsAt s i n).length) : (wordsAt s i n)[k] = wordAt s (i + 2 * k) := by simp [wordsAt]
theorem wdAt_length (s : ByteArray) (m k : Nat) (h : k ≤ m) : (wdAt s m k).length = m := by unfold wdAt; rw [List.length_append, List.length_take, wordsAt_length, List.length_replicate]; omega
theorem wdAt_step (s : ByteArray) (m k : Nat) (h : k < m) (x : Int) (hx : x = wordAt s (2 * k)) : (wdAt s m k).set k x = wdAt s m (k + 1) := by
  have hl : k < (wordsAt s 0 m).length := by rw [wordsAt_length]; exact h
  unfold wdAt
  have := set_midI (l := (wordsAt s 0 m).take k) (m := List.replicate (m - k) (0 : Int)) (c := x) (by intro e; have := congrArg List.length e; simp at this; omega)
  rw [List.length_take, Nat.min_eq_left (by omega)] at this
  rw [this, List.take_succ_eq_append_getElem hl, wordsAt_get, hx, List.drop_replicate, Nat.sub_sub, Nat.zero_add]
set_option maxRecDepth 100000 in
set_option maxHeartbeats 800000 in
theorem wordsOf_any (s : ByteArray) (w : World) (hs : s.size ≤ 8000) :
    Calls Tryd.prog 63 #[.string s] w fun e w' => ∃ v, e = .returned v ∧ OwnI w' w.heap.size v (wordsAt s 0 (s.size / 2)) ∧ Below w.heap.size w w' := by
  obtain ⟨i0, hi, hz0, hz1, hz2⟩ := info_parts info64
  obtain ⟨m, hm⟩ : ∃ m, Hid (m = s.size / 2) := ⟨_, show _ = _ from rfl⟩
  have hdv : (s.size : Int).tdiv 2 = (m : Int) := by rw [Int.tdiv_eq_ediv_of_nonneg (by omega)]; have := hm.out; omega
  have hm2 : 2 * m ≤ s.size := by have := hm.out; omega
  rw [← hm.out]
  go_enter Tryd.func63, Tryd.ntmps63
  go_wp2_with (at_make; refine wpList_make_full _ rfl (.tmp 7) (.tmp 7) 22 rfl w.heap.size 2 i0 (.int .i64 0) 1 Tryd.underlying22 hi hz0 hz1 .i64 .i64 _ _ m rfl rfl (by omega) (by omega) (by rw [hz2]; omega) (by unfold maxLen; omega) (Nat.le_refl _) ?_; intro w1 hown1 hgrow1; have hB1 := (Below.refl w.heap.size w).grown hgrow1 (Nat.le_refl _) (fun k e => by cases e); rw [zeros_list] at hown1)
  have HO1 : Hid (OwnI w1 w.heap.size (.slice (some ⟨w.heap.size, 0, none⟩) m m) (wdAt s m 0)) := by
    show OwnI _ _ _ _
    unfold wdAt
    rw [List.take_zero, List.nil_append, Nat.sub_zero]
    unfold OwnI
    rw [List.length_replicate]
    exact hown1
  clear hown1 hgrow1
  go_loopw [11] (fun i wr => ∃ k : Nat, k ≤ m ∧ i = .int .i64 k ∧ Hid (OwnI wr w.heap.size (.slice (some ⟨w.heap.size, 0, none⟩) m m) (wdAt s m k)) ∧ Below w.heap.size w wr) (fun i _ => m - (intOf i).toNat)
  case atStart => exact ⟨0, Nat.zero_le _, rfl, HO1.out, hB1⟩
  case round =>
    obtain ⟨k, hk, rfl, HW, hbel⟩ := hrel
    have hlen : (wdAt s m k).length = m := wdAt_length s m k hk
    by_cases hlt : k < m
    · have hk8 : k < (wdAt s m k).length := by rw [hlen]; exact hlt
      obtain ⟨g, hpg, _, hgl, hq, hf⟩ := HW.out.cell k hk8
      cases hpg
      have hk0 : 2 * k < s.size := by omega
      have hk1 : 2 * k + 1 < s.size := by omega
      have HST : Hid _ := wdAt_step s m k hlt
      have HBA : Hid _ := byteAt_eq s (2 * k) hk0
      have HBB : Hid _ := byteAt_eq s (2 * k + 1) hk1
      have hb := u8_lt s[2 * k]
      have hb2 := u8_lt s[2 * k + 1]
      have h1 := fun x => HW.out.set k hk8 x
      generalize (wdAt s m k)[k] = old at hq
      have hj0 : (2 : Int) * (k : Int) < (s.size : Int) := by omega
      have hj1 : (2 : Int) * (k : Int) + 1 < (s.size : Int) := by omega
      have ix0 := index_at s (2 * k) hk0 (2 * (k : Int)) (by omega)
      have ix1 := index_at s (2 * k + 1) hk1 (2 * (k : Int) + 1) (by omega)
      go_wp2
      go_region
      go_wp2
      go_roundw
      case rel => exact ⟨k + 1, by omega, by go_num, (show OwnI _ _ _ _ by have e : bits BinOp.or IntKind.i64 ((s[2 * k].toNat : Int) * 256) (s[2 * k + 1].toNat : Int) = wordAt s (2 * k) := by { rw [word_or _ _ hb hb2]; unfold wordAt; rw [HBA.out, HBB.out] }
                                                                           rw [← HST.out _ e]; exact h1 _), (hbel.setCell (Nat.le_refl _) _).drew⟩
      case measure => simp [intOf]; omega
    · obtain rfl : k = m := by omega
      go_wp2
      go_ret
      refine ⟨_, rfl, ?_, hbel⟩
      have := HW.out
      unfold wdAt at this
      rwa [Nat.sub_self, List.replicate_zero, List.append_nil, List.take_of_length_le (by rw [wordsAt_length]; exact Nat.le_refl _)] at this
set_option maxRecDepth 100000 in
set_option maxHeartbeats 800000 in
theorem l04Word_any (s : ByteArray) (i : Nat) (w : World) (hs : s.size ≤ 8000) (hi : i + 1 < s.size) :
    Calls Tryd.prog 60 #[.string s, .int .i64 i] w fun e w' => e = .returned (.int .i64 (wordAt s i)) ∧ Below w.heap.size w w' := by
  have HBA : Hid _ := byteAt_eq s i (by omega)
  have HBB : Hid _ := byteAt_eq s (i + 1) hi
  have hi0 : i < s.size := by omega
  have hb := u8_lt s[i]
  have hb2 := u8_lt s[i + 1]
  go_enter Tryd.func60, Tryd.ntmps60
  have hj1 : (i : Int) + 1 < (s.size : Int) := by omega
  have ix0 := index_at s i hi0 (i : Int) rfl
  have ix1 := index_at s (i + 1) hi ((i : Int) + 1) (by omega)
  go_wp2
  go_region
  go_wp2
  go_ret
  exact ⟨ret_int (by unfold wordAt; rw [HBA.out, HBB.out]; omega), ⟨rfl, rfl, rfl, Nat.le_refl _, fun _ _ => rfl⟩⟩
theorem oneValue_any (k m : Int) (w : World) (h0 : 0 ≤ m) (h1 : m ≤ 65535) :
    Calls Tryd.prog 65 #[.int .i64 k, .int .i64 m] w fun e w' => e = .returned (.int .i64 (if coilB k then m / 65280 else m)) ∧ w = w' := by
  have HC : Hid (Calls Tryd.prog 39 #[.int .i64 k] w fun e w' => e = .returned (.bool (coilB k)) ∧ w = w') := asksCoils_any k w
  have e0 : m.tdiv 65280 = m / 65280 := Int.tdiv_eq_ediv_of_nonneg h0
  cases hk : coilB k with
  | true =>
    rw [hk] at HC
    rw [if_pos rfl]
    go_enter Tryd.func65, Tryd.ntmps65
    go_wp2_with (go_at_call 39; refine HC.out.mono ?_; rintro e w1 ⟨rfl, rfl⟩)
    go_ret
    exact ⟨ret_int (by first | rfl | exact e0 | (unfold wrap64; omega)), rfl⟩
  | false =>
    rw [hk] at HC
    rw [if_neg (by decide)]
    go_enter Tryd.func65, Tryd.ntmps65
    go_wp2_with (go_at_call 39; refine HC.out.mono ?_; rintro e w1 ⟨rfl, rfl⟩)
    go_ret
    exact ⟨rfl, rfl⟩
theorem OwnI.lowQ {w : World} {base B : Nat} {v : Value} {zs : List Int} (h : OwnI w base v zs) (hB : B ≤ base) : OwnI w B v zs := by
  refine ⟨h.1, h.2.imp id ?_⟩
  rintro ⟨g, cap, cur, e1, e2, e3⟩
  exact ⟨g, cap, cur, e1, Nat.le_trans hB e2, e3⟩
def valsR (k m : Int) (d : ByteArray) : List Int := if coilB k then bitsR d m else wordsAt d 0 (d.size / 2)
set_option maxRecDepth 100000 in
set_option maxHeartbeats 800000 in
theorem readValues_any (k a m : Int) (v : Value) (hv : ∃ p n c, v = .slice p n c) (d : ByteArray) (w : World) (hd : d.size ≤ 8000) (hw : (Lit.int .i64 m).wf = true) :
    Calls Tryd.prog 66 #[.agg #[.int .i64 k, .int .i64 a, .int .i64 m, v], .string d] w fun e w' => ∃ v', e = .returned v' ∧ OwnI w' w.heap.size v' (valsR k m d) ∧ Below w.heap.size w w' := by
  obtain ⟨p, n, c, rfl⟩ := hv
  have HC : Hid (∀ W, Calls Tryd.prog 39 #[.int .i64 k] W fun e w' => e = .returned (.bool (coilB k)) ∧ W = w') := fun W => asksCoils_any k W
  have HB : Hid (∀ W, Calls Tryd.prog 73 #[.string d, .int .i64 m] W fun e w' => ∃ v, e = .returned v ∧ OwnI w' W.heap.size v (bitsR d m) ∧ Below W.heap.size W w') := fun W => bitsRead_any d m W (by omega) hw
  have HW : Hid (∀ W, Calls Tryd.prog 63 #[.string d] W fun e w' => ∃ v, e = .returned v ∧ OwnI w' W.heap.size v (wordsAt d 0 (d.size / 2)) ∧ Below W.heap.size W w') := fun W => wordsOf_any d W hd
  have hle : w.heap.size ≤ (w.alloc (.cells #[.int .i64 k, .int .i64 a, .int .i64 m, .slice p n c] 43)).heap.size := by simp
  unfold valsR
  cases hk : coilB k with
  | true =>
    rw [hk] at HC
    rw [if_pos rfl]
    go_enter Tryd.func66, Tryd.ntmps66
    go_wp2_with (first
      | (go_at_call 39; refine (HC.out _).mono ?_; rintro e w1 ⟨rfl, rfl⟩)
      | (go_at_call 73; refine (HB.out _).mono ?_; rintro e w1 ⟨v1, rfl, hown, hb1⟩))
    go_ret
    exact ⟨_, rfl, OwnI.lowQ hown hle, keepB (all_alloc _ _) (Nat.le_refl _) hb1⟩
  | false =>
    rw [hk] at HC
    rw [if_neg (by decide)]
    go_enter Tryd.func66, Tryd.ntmps66
    go_wp2_with (first
      | (go_at_call 39; refine (HC.out _).mono ?_; rintro e w1 ⟨rfl, rfl⟩)
      | (go_at_call 63; refine (HW.out _).mono ?_; rintro e w1 ⟨v1, rfl, hown, hb1⟩))
    go_ret
    exact ⟨_, rfl, OwnI.lowQ hown hle, keepB (all_alloc _ _) (Nat.le_refl _) hb1⟩
end Go.Proofs.YtfpibedloodjlabDoor
/- A QUESTION behind its interface, and whether it is right: the program's. -/
namespace Go.Proofs.YtfpibedloodjlabDoor
open Go.RowKit
set_option linter.unusedVariables false
set_option linter.unusedSimpArgs false

def fitsB (q : Ak) : Bool := if q.c = 1 ∨ q.c = 3 then decide (q.vs.length = 0) else if q.c = 5 ∨ q.c = 6 ∨ q.c = 15 ∨ q.c = 16 then setsB q else false
def qType (c : Int) : TypeId := if c = 1 ∨ c = 3 then 94 else if c = 5 ∨ c = 6 then 82 else if c = 15 ∨ c = 16 then 84 else 96
def qVal (q : Ak) (v : Value) : Value := if q.c = 1 ∨ q.c = 3 ∨ q.c = 5 ∨ q.c = 6 ∨ q.c = 15 ∨ q.c = 16 then .agg #[.int .i64 q.c, .int .i64 q.a, .int .i64 q.m, v] else .agg #[]
set_option maxRecDepth 100000 in
set_option maxHeartbeats 800000 in
theorem questionOf_any (q : Ak) (v : Value) (hv : ∃ p n c, v = .slice p n c) (w : World) :
    Calls Tryd.prog 64 #[.agg #[.int .i64 q.c, .int .i64 q.a, .int .i64 q.m, v]] w fun e w' => e = .returned (.iface (qType q.c) (qVal q v)) ∧ Below w.heap.size w w' := by
  obtain ⟨p, n, cp, rfl⟩ := hv
  obtain ⟨c, a, m, vs⟩ := q
  dsimp only
  unfold qVal qType
  rcases code_cases c with rfl | rfl | rfl | rfl | rfl | rfl | h
  all_goals try
    dsimp only
    go_enter Tryd.func64, Tryd.ntmps64
    go_wp2
    go_ret
    exact ⟨rfl, all_alloc _ _⟩
set_option maxRecDepth 100000 in
set_option maxHeartbeats 800000 in
/-- who stands behind the interface, and what is answered there -/
theorem quest (q : Ak) (p : Option Addr) (c : Nat) (w : World) (hl : q.vs.length ≤ 10000000) (hr : RowI w (.slice p q.vs.length c) q.vs) :
    ∃ (F : Nat), (∀ W : World, (method 246 (qType q.c) (qVal q (.slice p q.vs.length c)) "loop.example/g00556/impl.valuesFit").run Tryd.prog W = .ok (F, qVal q (.slice p q.vs.length c)) W) ∧ (∀ (W : World) (V : Value), (callFunc F #[V]).run Tryd.prog W = .ok (.enter F #[V]) W) ∧
      ∀ W, Below w.heap.size w W → Calls Tryd.prog F #[qVal q (.slice p q.vs.length c)] W fun e w' => e = .returned (.bool (fitsB q)) ∧ Below W.heap.size W w' := by
  have HS : Hid (∀ W, Below w.heap.size w W → Calls Tryd.prog 90 #[.agg #[.int .i64 q.c, .int .i64 q.a, .int .i64 q.m, .slice p q.vs.length c]] W fun e w' => e = .returned (.bool (setsB q)) ∧ Below W.heap.size W w') := fun W hW => setsRight_any q p c W hl (hr.below hW)
  clear hr
  obtain ⟨k, a, m, vs⟩ := q
  dsimp only at *
  unfold qVal qType fitsB
  dsimp only
  generalize setsB _ = B at HS ⊢
  rcases code_cases k with rfl | rfl | rfl | rfl | rfl | rfl | h
  · refine ⟨92, fun W => by kernel_rfl, fun W V => by kernel_rfl, fun W hW => ?_⟩
    clear HS hW
    generalize vs.length = n
    have e0 : (((n : Int)) == 0) = decide (n = 0) := by rw [Bool.eq_iff_iff]; simp
    show Calls Tryd.prog 92 #[.agg #[.int .i64 1, .int .i64 a, .int .i64 m, .slice p n c]] W fun e w' => e = .returned (.bool (decide (n = 0))) ∧ Below W.heap.size W w'
    go_enter Tryd.func92, Tryd.ntmps92
    go_wp2
    go_ret
    exact ⟨ret_bool (by first | exact e0 | exact decide_eq_decide.2 (by omega)), all_alloc _ _⟩
  · refine ⟨92, fun W => by kernel_rfl, fun W V => by kernel_rfl, fun W hW => ?_⟩
    clear HS hW
    generalize vs.length = n
    have e0 : (((n : Int)) == 0) = decide (n = 0) := by rw [Bool.eq_iff_iff]; simp
    show Calls Tryd.prog 92 #[.agg #[.int .i64 3, .int .i64 a, .int .i64 m, .slice p n c]] W fun e w' => e = .returned (.bool (decide (n = 0))) ∧ Below W.heap.size W w'
    go_enter Tryd.func92, Tryd.ntmps92
    go_wp2
    go_ret
    exact ⟨ret_bool (by first | exact e0 | exact decide_eq_decide.2 (by omega)), all_alloc _ _⟩
  · refine ⟨89, fun W => by kernel_rfl, fun W V => by kernel_rfl, fun W hW => ?_⟩
    have hA := keepB hW (Nat.le_refl _) (all_alloc W (.cells #[.int .i64 5, .int .i64 a, .int .i64 m, .slice p vs.length c] 82))
    show Calls Tryd.prog 89 #[.agg #[.int .i64 5, .int .i64 a, .int .i64 m, .slice p vs.length c]] W fun e w' => e = .returned (.bool B) ∧ Below W.heap.size W w'
    go_enter Tryd.func89, Tryd.ntmps89
    go_wp2_with (go_at_call 90; refine (HS.out _ hA).mono ?_; rintro e w1 ⟨rfl, hb1⟩)
    go_ret
    exact ⟨rfl, keepB (all_alloc _ _) (Nat.le_refl _) hb1⟩
  · refine ⟨89, fun W => by kernel_rfl, fun W V => by kernel_rfl, fun W hW => ?_⟩
    have hA := keepB hW (Nat.le_refl _) (all_alloc W (.cells #[.int .i64 6, .int .i64 a, .int .i64 m, .slice p vs.length c] 82))
    show Calls Tryd.prog 89 #[.agg #[.int .i64 6, .int .i64 a, .int .i64 m, .slice p vs.length c]] W fun e w' => e = .returned (.bool B) ∧ Below W.heap.size W w'
    go_enter Tryd.func89, Tryd.ntmps89
    go_wp2_with (go_at_call 90; refine (HS.out _ hA).mono ?_; rintro e w1 ⟨rfl, hb1⟩)
    go_ret
    exact ⟨rfl, keepB (all_alloc _ _) (Nat.le_refl _) hb1⟩
  · refine ⟨91, fun W => by kernel_rfl, fun W V => by kernel_rfl, fun W hW => ?_⟩
    have hA := keepB hW (Nat.le_refl _) (all_alloc W (.cells #[.int .i64 15, .int .i64 a, .int .i64 m, .slice p vs.length c] 84))
    show Calls Tryd.prog 91 #[.agg #[.int .i64 15, .int .i64 a, .int .i64 m, .slice p vs.length c]] W fun e w' => e = .returned (.bool B) ∧ Below W.heap.size W w'
    go_enter Tryd.func91, Tryd.ntmps91
    go_wp2_with (go_at_call 90; refine (HS.out _ hA).mono ?_; rintro e w1 ⟨rfl, hb1⟩)
    go_ret
    exact ⟨rfl, keepB (all_alloc _ _) (Nat.le_refl _) hb1⟩
  · refine ⟨91, fun W => by kernel_rfl, fun W V => by kernel_rfl, fun W hW => ?_⟩
    have hA := keepB hW (Nat.le_refl _) (all_alloc W (.cells #[.int .i64 16, .int .i64 a, .int .i64 m, .slice p vs.length c] 84))
    show Calls Tryd.prog 91 #[.agg #[.int .i64 16, .int .i64 a, .int .i64 m, .slice p vs.length c]] W fun e w' => e = .returned (.bool B) ∧ Below W.heap.size W w'
    go_enter Tryd.func91, Tryd.ntmps91
    go_wp2_with (go_at_call 90; refine (HS.out _ hA).mono ?_; rintro e w1 ⟨rfl, hb1⟩)
    go_ret
    exact ⟨rfl, keepB (all_alloc _ _) (Nat.le_refl _) hb1⟩
  obtain ⟨h1, h3, h5, h6, h15, h16⟩ := h
  simp only [h1, h3, h5, h6, h15, h16, or_self, if_false]
  refine ⟨93, fun W => by kernel_rfl, fun W V => by kernel_rfl, fun W hW => ?_⟩
  go_enter Tryd.func93, Tryd.ntmps93
  go_wp2
  go_ret
  exact ⟨rfl, all_alloc _ _⟩
end Go.Proofs.YtfpibedloodjlabDoor
