/- BITS OF BYTES: the program's BitsRead and the model's. -/
import Derived.Test.YtfpibedloodjlaaBits
import Derived.Test.YtfpibedloodjlaaIntsIn
import Derived.Test.YtfpibedloodjlaaWire
namespace Go.Proofs.Ytfpibedloodjlaa
open Go.RowKit
set_option linter.unusedVariables false
set_option linter.unusedSimpArgs false

def bitsR (s : ByteArray) (m : Int) : List Int := if (1 ≤ m ∧ m ≤ 64) ∧ (s.size : Int) = (m + 7) / 8 then unpackL s m.toNat else []
/-- the row in the making -/
def unAt (s : ByteArray) (m k : Nat) : List Int := (unpackL s m).take k ++ List.replicate (m - k) 0
theorem unAt_length (s : ByteArray) (m k : Nat) (h : k ≤ m) : (unAt s m k).length = m := by unfold unAt; rw [List.length_append, List.length_take, unpackL_length, List.length_replicate]; omega
theorem unAt_step (s : ByteArray) (m k : Nat) (h : k < m) (x : Int) (hx : x = ((byteAt s (k / 8) / 2 ^ (k % 8) % 2 : Nat) : Int)) : (unAt s m k).set k x = unAt s m (k + 1) := by
  have hl : k < (unpackL s m).length := by rw [unpackL_length]; exact h
  unfold unAt
  have := set_midI (l := (unpackL s m).take k) (m := List.replicate (m - k) (0 : Int)) (c := x) (by intro e; have := congrArg List.length e; simp at this; omega)
  rw [List.length_take, Nat.min_eq_left (by omega)] at this
  rw [this, List.take_succ_eq_append_getElem hl, unpackL_get, hx, List.drop_replicate, Nat.sub_sub]
theorem and_table : ∀ r : Fin 8, ∀ o : Fin 256, wrap64 (bits BinOp.and IntKind.u8 ((o.val : Int) / 2 ^ r.val) 1) = ((o.val / 2 ^ r.val % 2 : Nat) : Int) := by decide +kernel
set_option maxRecDepth 100000 in
set_option maxHeartbeats 800000 in
theorem bitsRead_yes (s : ByteArray) (m : Nat) (w : World) (hm : 1 ≤ m ∧ m ≤ 64) (hs : s.size = (m + 7) / 8) :
    Calls Try.prog 22 #[.string s, .int .i64 m] w fun e w' => ∃ v, e = .returned v ∧ OwnI w' w.heap.size v (unpackL s m) ∧ Below w.heap.size w w' := by
  obtain ⟨i0, hi, hz0, hz1, hz2⟩ := info_parts info64
  have HSZ : Hid (s.size = (m + 7) / 8) := hs
  have e8 : ((m : Int) + 7) / 8 = (s.size : Int) := by omega
  have e9 : ((s.size : Int) != (s.size : Int)) = false := by simp
  have hs8 : s.size ≤ 8 := by omega
  clear hs
  go_enter Try.func22, Try.ntmps22
  go_wp2_with (first
    | (go_at_call 44; refine (bytesFor_any m _ (by omega) (by omega)).mono ?_; rintro e w1 ⟨rfl, rfl⟩; rw [e8])
    | (at_make; refine wpList_make_full _ rfl (.tmp 20) (.tmp 20) 23 rfl w.heap.size 2 i0 (.int .i64 0) 1 Try.underlying23 hi hz0 hz1 .i64 .i64 _ _ m rfl rfl (by omega) (by omega) (by rw [hz2]; omega) (by unfold maxLen; omega) (Nat.le_refl _) ?_; intro w1 hown1 hgrow1; have hB1 := (Below.refl w.heap.size w).grown hgrow1 (Nat.le_refl _) (fun k e => by cases e); rw [zeros_list] at hown1))
  have HO1 : Hid (OwnI w1 w.heap.size (.slice (some ⟨w.heap.size, 0, none⟩) m m) (unAt s m 0)) := by
    show OwnI _ _ _ _
    unfold unAt
    rw [List.take_zero, List.nil_append, Nat.sub_zero]
    unfold OwnI
    rw [List.length_replicate]
    exact hown1
  clear hown1 hgrow1
  go_loopw [24] (fun i wr => ∃ k : Nat, k ≤ m ∧ i = .int .i64 k ∧ Hid (OwnI wr w.heap.size (.slice (some ⟨w.heap.size, 0, none⟩) m m) (unAt s m k)) ∧ Below w.heap.size w wr) (fun i _ => m - (intOf i).toNat)
  case atStart => exact ⟨0, Nat.zero_le _, rfl, HO1.out, hB1⟩
  case round =>
    obtain ⟨k, hk, rfl, HW, hbel⟩ := hrel
    have hlen : (unAt s m k).length = m := unAt_length s m k hk
    by_cases hlt : k < m
    · have hk8 : k < (unAt s m k).length := by rw [hlen]; exact hlt
      obtain ⟨g, hpg, _, hgl, hq, hf⟩ := HW.out.cell k hk8
      cases hpg
      have hks : k / 8 < s.size := by have := HSZ.out; omega
      have HST : Hid _ := unAt_step s m k hlt
      have HBA : Hid _ := byteAt_eq s (k / 8) hks
      have hb := u8_lt s[k / 8]
      have h1 := fun x => HW.out.set k hk8 x
      generalize (unAt s m k)[k] = old at hq
      have hmod : (k : Int).tmod 8 = ((k % 8 : Nat) : Int) := by rw [Int.tmod_eq_emod_of_nonneg (by omega)]; omega
      have hdiv : (k : Int).tdiv 8 = ((k / 8 : Nat) : Int) := by rw [Int.tdiv_eq_ediv_of_nonneg (by omega)]; omega
      go_wp2
      go_roundw
      case rel => exact ⟨k + 1, by omega, by go_num, (show OwnI _ _ _ _ by have e := and_table ⟨k % 8, by omega⟩ ⟨s[k / 8].toNat, hb⟩; dsimp only at e; rw [← HBA.out] at e; rw [← HST.out _ e]; rw [HBA.out]; exact h1 _), hbel.setCell (Nat.le_refl _) _⟩
      case measure => simp [intOf]; omega
    · obtain rfl : k = m := by omega
      go_wp2
      go_ret
      refine ⟨_, rfl, ?_, hbel⟩
      have := HW.out
      unfold unAt at this
      rwa [Nat.sub_self, List.replicate_zero, List.append_nil, List.take_of_length_le (by rw [unpackL_length]; exact Nat.le_refl _)] at this
set_option maxRecDepth 100000 in
set_option maxHeartbeats 800000 in
theorem bitsRead_no (s : ByteArray) (m : Int) (w : World) (hs : s.size ≤ 9223372036854775807) (hw : (Lit.int .i64 m).wf = true) (h : ¬ ((1 ≤ m ∧ m ≤ 64) ∧ (s.size : Int) = (m + 7) / 8)) :
    Calls Try.prog 22 #[.string s, .int .i64 m] w fun e w' => e = .returned (.slice none 0 0) ∧ w = w' := by
  by_cases h1 : m < 1
  · clear h
    go_enter Try.func22, Try.ntmps22
    go_wp2
    go_ret
    exact ⟨rfl, rfl⟩
  by_cases h2 : 64 < m
  · clear h
    go_enter Try.func22, Try.ntmps22
    go_wp2
    go_ret
    exact ⟨rfl, rfl⟩
  have e9 : ((s.size : Int) != (m + 7) / 8) = true := by simp; omega
  clear h
  go_enter Try.func22, Try.ntmps22
  go_wp2_with (go_at_call 44; refine (bytesFor_any m _ (by omega) (by omega)).mono ?_; rintro e w1 ⟨rfl, rfl⟩)
  go_ret
  exact ⟨rfl, rfl⟩
theorem bitsRead_any (s : ByteArray) (m : Int) (w : World) (hs : s.size ≤ 9223372036854775807) (hw : (Lit.int .i64 m).wf = true) :
    Calls Try.prog 22 #[.string s, .int .i64 m] w fun e w' => ∃ v, e = .returned v ∧ OwnI w' w.heap.size v (bitsR s m) ∧ Below w.heap.size w w' := by
  unfold bitsR
  by_cases h : (1 ≤ m ∧ m ≤ 64) ∧ (s.size : Int) = (m + 7) / 8
  · rw [if_pos h]
    obtain ⟨k, rfl⟩ : ∃ k : Nat, m = (k : Int) := ⟨m.toNat, by omega⟩
    rw [Int.toNat_natCast]
    exact bitsRead_yes s k w (by omega) (by omega)
  · rw [if_neg h]
    refine (bitsRead_no s m w hs hw h).mono ?_
    rintro e w' ⟨rfl, rfl⟩
    exact ⟨_, rfl, OwnI.nil _ _, Below.refl _ _⟩
/-- numbers put behind one another -/
theorem OwnI.of {w : World} {base : Nat} {v : Value} {zs : List Int} {n : Nat} {xs : List Value} (h : w.ownsRow base 2 1 v n xs) (hn : n = zs.length) (hx : xs = zs.map (Value.int .i64)) : OwnI w base v zs := by subst hn; subst hx; exact h
theorem own_madeI (w : World) (base : Nat) (hb : base ≤ w.heap.size) : OwnI (w.alloc (.cells #[] 2)) base (.slice (some ⟨w.heap.size, 0, none⟩) 0 0) [] :=
  World.ownsRow_made w #[] 0 hb (by decide) rfl
theorem cells_newI (w : World) (xs : List Value) (t : TypeId) : ∀ j u, xs[j]? = some u → (w.alloc (.cells xs.toArray t)).cell? ((⟨w.heap.size, 0, none⟩ : Addr).add j) = some u := by
  intro j u hu
  have hn := heap_alloc_new w (.cells xs.toArray t)
  have e : (⟨w.heap.size, 0, none⟩ : Addr).add j = ⟨w.heap.size, j, none⟩ := by unfold Addr.add; split <;> simp_all
  rw [e]
  simp only [World.cell?, hn]
  simpa using hu
theorem cells_newG (w : World) (xs : List Value) (t : TypeId) (g : Nat) (hg : g = w.heap.size) : ∀ j u, xs[j]? = some u → (w.alloc (.cells xs.toArray t)).cell? ((⟨g, 0, none⟩ : Addr).add j) = some u := by subst hg; exact cells_newI w xs t
theorem bit_div {b r : Nat} (hb : b < 256) : (wrap64 ((b : Int) / ((2 ^ r : Nat) : Int))).tmod 2 = ((b / 2 ^ r % 2 : Nat) : Int) := by
  have e : (b : Int) / ((2 ^ r : Nat) : Int) = ((b / 2 ^ r : Nat) : Int) := by simp
  have h : b / 2 ^ r ≤ b := Nat.div_le_self _ _
  rw [e]
  generalize b / 2 ^ r = q at h
  have e2 : wrap64 (q : Int) = q := by unfold wrap64; omega
  rw [e2, Int.tmod_eq_emod_of_nonneg (by omega)]
  omega
set_option maxRecDepth 100000 in
set_option maxHeartbeats 800000 in
theorem l04Unpack_any (s : ByteArray) (m : Nat) (w : World) (hm : m ≤ 64) (hs : (m + 7) / 8 ≤ s.size) (hz : s.size ≤ 9223372036854775807) :
    Calls Try.prog 57 #[.string s, .int .i64 m] w fun e w' => ∃ v, e = .returned v ∧ OwnI w' w.heap.size v (unpackL s m) ∧ Below w.heap.size w w' := by
  obtain ⟨i0, hi, hz0, hz1, hz2⟩ := info_parts info64
  go_enter Try.func57, Try.ntmps57
  go_wp2
  go_loopw [5, 6] (fun v i wr => ∃ k : Nat, k ≤ m ∧ i = .int .i64 k ∧ Hid (OwnI wr w.heap.size v ((unpackL s m).take k)) ∧ Below w.heap.size w wr) (fun _ i _ => m - (intOf i).toNat)
  case atStart => exact ⟨0, Nat.zero_le _, rfl, own_madeI w _ (Nat.le_refl _), (Below.refl _ _).alloc (Nat.le_refl _) _⟩
  case round =>
    obtain ⟨k, hk, rfl, HW, hbel⟩ := hrel
    obtain ⟨p, c, hv⟩ := HW.out.shape
    have hlk : ((unpackL s m).take k).length = k := by rw [List.length_take, unpackL_length]; omega
    rw [hlk] at hv
    subst hv
    by_cases hlt : k < m
    · have hks : k / 8 < s.size := by omega
      have HBA : Hid _ := byteAt_eq s (k / 8) hks
      have hb := u8_lt s[k / 8]
      have hsz := hbel.size
      have hl2 : k < (unpackL s m).length := by rw [unpackL_length]; exact hlt
      have HTK : Hid ((unpackL s m).take (k + 1) = (unpackL s m).take k ++ [((s[k / 8].toNat / 2 ^ (k % 8) % 2 : Nat) : Int)]) := by
        show _ = _
        rw [List.take_succ_eq_append_getElem hl2, unpackL_get, HBA.out]
      have hmod : (k : Int).tmod 8 = ((k % 8 : Nat) : Int) := by rw [Int.tmod_eq_emod_of_nonneg (by omega)]; omega
      have hdiv : (k : Int).tdiv 8 = ((k / 8 : Nat) : Int) := by rw [Int.tdiv_eq_ediv_of_nonneg (by omega)]; omega
      have hk9 : k % 8 < 8 := by omega
      have HB2 : Hid _ := @bit_div s[k / 8].toNat (k % 8) hb
      have qn : (wr.alloc (.cells #[.int .i64 1, .int .i64 2, .int .i64 4, .int .i64 8, .int .i64 16, .int .i64 32, .int .i64 64, .int .i64 128] 2)).cell? ⟨wr.heap.size, k % 8, none⟩ = some (.int .i64 ((2 ^ (k % 8) : Nat) : Int)) := by
        simp only [World.cell?, heap_alloc_new]
        exact pow_cell _ (by omega)
      generalize hP : ((2 ^ (k % 8) : Nat) : Int) = P at qn HB2
      have hP0 : 0 < P := by rw [← hP]; have := Nat.pow_pos (n := k % 8) (show 0 < 2 by decide); omega
      have hown : OwnI (wr.alloc (.cells #[.int .i64 1, .int .i64 2, .int .i64 4, .int .i64 8, .int .i64 16, .int .i64 32, .int .i64 64, .int .i64 128] 2)) w.heap.size (.slice p k c) ((unpackL s m).take k) := HW.out.below ((Below.refl _ _).alloc (Nat.le_refl _) _)
      have HOW : Hid (OwnI _ _ _ _) := hown
      clear hown hP
      go_wp2_with (at_builtin; refine wpList_append_own _ rfl (.tmp 19) (.tmp 28) 23 rfl w.heap.size 2 i0 (.int .i64 0) 1 8 Try.underlying23 hi hz0 hz1 hz2 rfl (by decide) _ _ _ rfl (World.ownsRow.alloc HOW.out _) ⟨wr.heap.size + 1, 0, none⟩ 1 1 [_] rfl rfl (cells_newG _ _ _ _ (by simp)) (by intro x hx; simp at hx; subst hx; rfl) (by unfold maxLen; omega) (by omega) (by simp; omega) ?_; intro v' w2 hown' hgrow _)
      go_roundw
      case rel =>
        have hbl : Below w.heap.size w w2 := ((hbel.alloc (by omega) _).alloc (by simp; omega) _).grown hgrow (by simp; omega) (fun k e => (World.ownsRow.lt HOW.out k e).1)
        refine ⟨k + 1, by omega, by go_num, (show OwnI _ _ _ _ from ?_), hbl⟩
        rw [HTK.out]
        refine OwnI.of hown' (by rw [List.length_append]; rfl) ?_
        rw [List.map_append, HB2.out]
        rfl
      case measure => simp [intOf]; omega
    · obtain rfl : k = m := by omega
      go_wp2
      go_ret
      refine ⟨_, rfl, ?_, hbel⟩
      have := HW.out
      rwa [List.take_of_length_le (by rw [unpackL_length]; exact Nat.le_refl _)] at this
end Go.Proofs.Ytfpibedloodjlaa
