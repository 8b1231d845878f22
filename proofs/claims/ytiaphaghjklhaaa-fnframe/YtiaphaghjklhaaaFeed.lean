/- THE WALK of the model's WireFeed. -/
import Derived.Test.YtiaphaghjklhaaaHear3
import Derived.Test.YtiaphaghjklhaaaMarks
import Derived.WalkKit
import Derived.WalkSpells
import Derived.Outline
import Derived.Below
import Derived.Deep.RegionHeld3
import Derived.Deep.RegionWith
import Derived.Deep.DeepCutAuto
import Derived.Deep.QuietTactic
import Derived.BigQuiet
import Derived.Maps.AppendAt
namespace Go.Proofs.Ytiaphaghjklhaaa
open Go.RowKit
set_option linter.unusedVariables false
set_option linter.unusedSimpArgs false

theorem right_eq (i e d : Bool) (b : ByteArray) : (wrOf i e d b).right = rightB i e d b := by
  have h : b.data.toList.isEmpty = decide (b.size = 0) := by
    have hl := list_length b
    cases hq : b.data.toList with
    | nil => rw [hq] at hl; rw [← hl]; rfl
    | cons a l => rw [hq] at hl; rw [← hl]; rfl
  unfold Wr.right rightB wrOf
  simp only [list_length, h]
theorem right_len {x : Wr} (h : x.right = true) : x.buf.length ≤ 62 := by
  unfold Wr.right at h
  split at h
  · simp only [Bool.and_eq_true, List.isEmpty_iff] at h
    rw [h.1]; simp
  · simpa using h
def zeroW : Wr := ⟨false, false, false, []⟩
/-- what is told of a wire that hears a text -/
def feedR (x : Wr) (t : ByteArray) : Wr × List (List UInt8) × Int :=
  if 8000 < t.size then (zeroW, [], 2) else if x.right = false then (zeroW, [], 1) else (x.feed t.data.toList, x.feeds t.data.toList, 0)
def foV (r : Wr × List (List UInt8) × Int) (v : Value) : Value := .agg #[.bool r.1.inn, .bool r.1.esc, .bool r.1.bad, .string (bytesOf r.1.buf), v, .int .i64 r.2.2]
theorem wr_parts (x : Wr) : wrOf x.inn x.esc x.bad (bytesOf x.buf) = x := by unfold wrOf; rw [bytesOf_list]
theorem OwnS.nil (w : World) (base : Nat) : OwnS w base (.slice none 0 0) [] := World.ownsRow_nil _ _ _ _
theorem OwnS.mono {w : World} {base B : Nat} {v : Value} {ss : List ByteArray} (h : OwnS w base v ss) (hB : B ≤ base) : OwnS w B v ss := by
  refine ⟨h.1, h.2.imp id ?_⟩
  rintro ⟨g, cap, cur, e1, e2, e3⟩
  exact ⟨g, cap, cur, e1, Nat.le_trans hB e2, e3⟩
theorem OwnS.kept {w w' : World} {base : Nat} {v : Value} {ss : List ByteArray} (h : OwnS w base v ss) (hk : ∀ g, base ≤ g → g < w.heap.size → w'.heap[g]? = w.heap[g]?) : OwnS w' base v ss := by
  refine ⟨h.1, h.2.imp id ?_⟩
  rintro ⟨g, cap, cur, e1, e2, e3, e4⟩
  exact ⟨g, cap, cur, e1, e2, (hk g e2 (Array.getElem?_eq_some_iff.1 e3).1).trans e3, e4⟩
theorem feed_more (x : Wr) (t : ByteArray) (k : Nat) (h : k < t.size) : x.feed (t.data.toList.take (k + 1)) = (x.feed (t.data.toList.take k)).next t[k] := by rw [take_snoc t k h, Wr.feed_snoc]
theorem feeds_more (x : Wr) (t : ByteArray) (k : Nat) (h : k < t.size) : x.feeds (t.data.toList.take (k + 1)) = x.feeds (t.data.toList.take k) ++ (x.feed (t.data.toList.take k)).hears t[k] := by rw [take_snoc t k h, Wr.feeds_snoc]
theorem hears_size (x : Wr) (c : UInt8) : (x.hears c).map bytesOf = if (bytesOf (if c = 126 then x.heard else [])).size = 0 then [] else [bytesOf (if c = 126 then x.heard else [])] := by
  unfold Wr.hears
  by_cases hc : c = 126
  · simp only [hc, true_and, if_true]
    by_cases h : x.heard = []
    · rw [if_neg (by simp [h]), if_pos (by rw [h, bytesOf_size]; rfl)]; rfl
    · rw [if_pos h, if_neg (by rw [bytesOf_size]; exact fun e => h (List.eq_nil_of_length_eq_zero e))]; rfl
  · rw [if_neg (fun h => hc h.1), if_neg hc, if_pos (by rw [bytesOf_size]; rfl)]; rfl
theorem cells_at {w : World} {g : Nat} {cs : Array Value} {t : TypeId} (h : w.heap[g]? = some (.cells cs t (0, 0))) : (∀ o v, cs[o]? = some v → w.cell? ⟨g, o, none⟩ = some v) ∧ (∀ o, w.frozen? ⟨g, o, none⟩ = false) ∧ g < w.heap.size := by
  refine ⟨fun o v hv => ?_, fun o => ?_, (Array.getElem?_eq_some_iff.1 h).1⟩
  · simp only [World.cell?, h]; simpa using hv
  · simp [World.frozen?, h]
theorem info9 : (Try.prog.info? 9).map (fun i => (i.zero, i.size, i.bytes)) = some (some (.string ⟨#[]⟩), 1, 16) := by kernel_rfl
theorem own_shape {w : World} {base : Nat} {e : TypeId} {size : Nat} {v : Value} {n : Nat} {xs : List Value} (h : w.ownsRow base e size v n xs) : ∃ a cap, v = .slice a n cap := by
  obtain ⟨_, ⟨rfl, rfl⟩ | ⟨g, cap, cur, rfl, _⟩⟩ := h
  · exact ⟨_, _, rfl⟩
  · exact ⟨_, _, rfl⟩
theorem cut_late {wr w2 : World} (hb : Below wr.drew.heap.size wr.drew w2) (h : ByteArray) (cs : Array Value) : ∃ g : Nat, Value.pointer (some ⟨w2.heap.size, 0, none⟩) = .pointer (some ⟨g, 0, none⟩) ∧ Value.string h = .string h ∧ Hid ((w2.alloc (.cells cs 35)).heap[g]? = some (.cells cs 35 (0, 0))) ∧ wr.heap.size ≤ g ∧ Below wr.heap.size wr (w2.alloc (.cells cs 35)) :=
  have hw : Below wr.heap.size wr w2 := ⟨hb.os, hb.tape, hb.output, hb.size, hb.block⟩
  ⟨_, rfl, rfl, heap_alloc_new _ _, hw.size, hw.alloc hw.size _⟩
theorem cut_early {wr w2 : World} (hb : Below (wr.alloc (.cells #[.bool false, .bool false, .bool false, .string ⟨#[]⟩] 35)).drew.heap.size (wr.alloc (.cells #[.bool false, .bool false, .bool false, .string ⟨#[]⟩] 35)).drew w2) (h : ByteArray) (a b c d : Value) :
    ∃ g : Nat, Value.pointer (some ⟨wr.heap.size, 0, none⟩) = .pointer (some ⟨g, 0, none⟩) ∧ Value.string h = .string h ∧ Hid (((((w2.setCell ⟨wr.heap.size, 0, none⟩ a).setCell ⟨wr.heap.size, 1, none⟩ b).setCell ⟨wr.heap.size, 2, none⟩ c).setCell ⟨wr.heap.size, 3, none⟩ d).heap[g]? = some (.cells #[a, b, c, d] 35 (0, 0))) ∧ wr.heap.size ≤ g ∧ Below wr.heap.size wr ((((w2.setCell ⟨wr.heap.size, 0, none⟩ a).setCell ⟨wr.heap.size, 1, none⟩ b).setCell ⟨wr.heap.size, 2, none⟩ c).setCell ⟨wr.heap.size, 3, none⟩ d) := by
  have h0 : w2.heap[wr.heap.size]? = some (.cells [.bool false, .bool false, .bool false, .string ⟨#[]⟩].toArray 35 (0, 0)) := (hb.block wr.heap.size (by simp)).trans (heap_alloc_new wr _)
  have hw : Below wr.heap.size wr w2 := ((Below.refl wr.heap.size wr).alloc (Nat.le_refl _) _).trans (Below.mono ⟨hb.os, hb.tape, hb.output, hb.size, hb.block⟩ (by simp))
  exact ⟨_, rfl, rfl, set_at 3 d (set_at 2 c (set_at 1 b (set_at 0 a h0))), Nat.le_refl _, (((hw.setCell (Nat.le_refl _) _).setCell (Nat.le_refl _) _).setCell (Nat.le_refl _) _).setCell (Nat.le_refl _) _⟩
set_option maxRecDepth 100000 in
set_option maxHeartbeats 3200000 in
theorem specWireFeed_any (i e d : Bool) (b t : ByteArray) (w : World) (hb : b.size ≤ maxLen) (ht : t.size ≤ maxLen) :
    Calls Try.prog 25 #[.agg #[.bool i, .bool e, .bool d, .string b], .string t] w fun x w' => ∃ v, x = .returned (foV (feedR (wrOf i e d b) t) v) ∧ OwnS w' w.heap.size v ((feedR (wrOf i e d b) t).2.1.map bytesOf) ∧ Below w.heap.size w w' := by
  have ht' := ht
  unfold maxLen at ht'
  unfold feedR
  by_cases h1 : 8000 < t.size
  · rw [if_pos h1]
    go_enter Try.func25, Try.ntmps25
    go_wp2
    exact bodyPost_ret (v := foV (zeroW, [], 2) (.slice none 0 0)) (by simp [results, Try.results25, go_sem, foV, zeroW]; rfl) rfl ⟨_, rfl, OwnS.nil _ _, by
      repeat (first | exact Below.refl _ _ | refine Below.setCell ?_ (by simp <;> omega) _ | refine Below.alloc ?_ (by simp <;> omega) _)⟩
  rw [if_neg h1]
  have HR : Hid _ := fun w => specWireRight_any i e d b w hb
  rw [← right_eq] at HR
  by_cases h2 : (wrOf i e d b).right = false
  · rw [if_pos h2]
    rw [h2] at HR
    clear h2
    go_enter Try.func25, Try.ntmps25
    go_wp2_with (go_at_call 29; refine (HR.out _).mono ?_; rintro e' w1 ⟨rfl, hb1⟩; obtain ⟨hc1, hf1⟩ := bcellF hb1)
    exact bodyPost_ret (v := foV (zeroW, [], 1) (.slice none 0 0)) (by simp [results, Try.results25, go_sem, foV, zeroW, hc1]; rfl) rfl ⟨_, rfl, OwnS.nil _ _, by
      repeat (refine Below.setCell ?_ (by simp <;> omega) _)
      exact ((((Below.refl w.heap.size w).alloc (Nat.le_refl _) _).alloc (by simp) _).trans (hb1.mono (by simp <;> omega)))⟩
  rw [if_neg h2]
  have h2' : (wrOf i e d b).right = true := by simpa using h2
  rw [h2'] at HR
  have HRT : Hid _ := h2'
  clear h2 h2' hb
  go_enter Try.func25, Try.ntmps25
  go_wp2_with (go_at_call 29; refine (HR.out _).mono ?_; rintro e' w1 ⟨rfl, hb1⟩; obtain ⟨hc1, hf1⟩ := bcellF hb1)
  have hA0 : Below w.heap.size w w1 := (((Below.refl w.heap.size w).alloc (Nat.le_refl _) _).alloc (by simp) _).trans (hb1.mono (by simp <;> omega))
  have hz1 : w.heap.size + 1 < w1.heap.size := by have := hb1.size; simp at this; omega
  have HA1 : Hid (w1.heap[w.heap.size]? = some (.cells #[.bool i, .bool e, .bool d, .string b] 35 (0, 0))) := by
    show _ = _
    rw [hb1.block w.heap.size (by simp <;> omega), heap_alloc_old _ _ (by simp), heap_alloc_new]
  have HR1 : Hid (w1.heap[w.heap.size + 1]? = some (.cells #[.bool false, .bool false, .bool false, .string ⟨#[]⟩, .slice none 0 0, .int .i64 0] 40 (0, 0))) := by
    show _ = _
    rw [hb1.block (w.heap.size + 1) (by simp)]
    have := heap_alloc_new (w.alloc (.cells #[.bool i, .bool e, .bool d, .string b] 35)) (.cells #[.bool false, .bool false, .bool false, .string ⟨#[]⟩, .slice none 0 0, .int .i64 0] 40)
    simpa using this
  have h62 : b.size ≤ 62 := by have := right_len HRT.out; simpa [wrOf, list_length] using this
  clear hc1 hf1 hb1 HR
  obtain ⟨X0, hX0⟩ : ∃ X0, Hid (wrOf i e d b = X0) := ⟨_, show _ = _ from rfl⟩
  rw [hX0.out] at HRT
  go_loopw [6] (fun idx wr => ∃ (k : Nat) (i' e' d' : Bool) (b' : ByteArray) (v : Value) (ss : List ByteArray), k ≤ t.size ∧ idx = .int .i64 k ∧ Hid (wrOf i' e' d' b' = X0.feed (t.data.toList.take k)) ∧ Hid (ss = (X0.feeds (t.data.toList.take k)).map bytesOf) ∧ b'.size ≤ 62 ∧ ss.length ≤ k ∧ Hid (wr.heap[w.heap.size]? = some (.cells #[.bool i', .bool e', .bool d', .string b'] 35 (0, 0))) ∧ Hid (wr.heap[w.heap.size + 1]? = some (.cells #[.bool false, .bool false, .bool false, .string ⟨#[]⟩, .slice none 0 0, .int .i64 0] 40 (0, 0))) ∧ Hid (wr.heap[w1.heap.size]? = some (.cells #[.bool false, .bool false, .bool false, .string ⟨#[]⟩, v, .int .i64 0] 40 (0, 0))) ∧ Hid (OwnS wr (w1.heap.size + 1) v ss) ∧ Below w.heap.size w wr ∧ w1.heap.size < wr.heap.size) (fun idx _ => t.size - (intOf idx).toNat)
  case atStart => exact ⟨0, i, e, d, b, .slice none 0 0, [], Nat.zero_le _, rfl, hX0.out, rfl, h62, Nat.zero_le _, (heap_alloc_old _ _ (by omega)).trans HA1.out, (heap_alloc_old _ _ (by omega)).trans HR1.out, heap_alloc_new _ _, OwnS.nil _ _, hA0.alloc hA0.size _, by simp⟩
  case round =>
    obtain ⟨k, i', e', d', b', v, ss, hk, rfl, HX, HSS, hb62, hsl, HA, HRS, HC, HV, hbel, hzr⟩ := hrel
    have hzw := hA0.size
    by_cases hlt : k < t.size
    · obtain ⟨ca, cf, cl⟩ := cells_at HA.out
      have a0 := ca 0 _ rfl
      have a1 := ca 1 _ rfl
      have a2 := ca 2 _ rfl
      have a3 := ca 3 _ rfl
      have HH : Hid _ := fun w => l02Hear_any i' e' d' b' t[k] w hb62
      obtain ⟨y, hy⟩ : ∃ y, Hid ((wrOf i' e' d' b').next t[k] = y) := ⟨_, show _ = _ from rfl⟩
      obtain ⟨h, hh⟩ : ∃ h, Hid (bytesOf (if t[k] = 126 then (wrOf i' e' d' b').heard else []) = h) := ⟨_, show _ = _ from rfl⟩
      have hv : hrV (wrOf i' e' d' b') t[k] = .tuple #[.agg #[.bool y.inn, .bool y.esc, .bool y.bad, .string (bytesOf y.buf)], .string h] := by unfold hrV; rw [hy.out, hh.out]; rfl
      rw [hv] at HH
      clear hv ca
      go_upto_region 9 with fail
      go_cut [7, 8] (fun s7 s8 wx => ∃ g : Nat, s7 = .pointer (some ⟨g, 0, none⟩) ∧ s8 = .string h ∧ Hid (wx.heap[g]? = some (.cells #[.bool y.inn, .bool y.esc, .bool y.bad, .string (bytesOf y.buf)] 35 (0, 0))) ∧ wr.heap.size ≤ g ∧ Below wr.heap.size wr wx)
      case first =>
        go_region_with ((go_at_call 71; refine (HH.out _).mono ?_; rintro e2 w2 ⟨rfl, hb2⟩; obtain ⟨hc2, hf2⟩ := bcellF hb2))
        all_goals (go_wp2; go_meet)
        all_goals first | exact cut_late hb2 h _ | exact cut_early hb2 h _ _ _ _
      case rest =>
        obtain ⟨g, rfl, rfl, HG, hgr, hbx⟩ := hcut
        clear a0 a1 a2 a3 cf cl HH
        obtain ⟨ca, cf, cl⟩ := cells_at ((hbx.block w.heap.size (by omega)).trans HA.out)
        have a0 := ca 0 _ rfl
        have a1 := ca 1 _ rfl
        have a2 := ca 2 _ rfl
        have a3 := ca 3 _ rfl
        obtain ⟨cg, _, gl⟩ := cells_at HG.out
        have g0 := cg 0 _ rfl
        have g1 := cg 1 _ rfl
        have g2 := cg 2 _ rfl
        have g3 := cg 3 _ rfl
        have qh := empty_iff h
        clear ca cg
        go_upto_region 11 with fail
        obtain ⟨wd, hwd⟩ : ∃ wd, wd = (((wc.setCell ⟨w.heap.size, 0, none⟩ (.bool y.inn)).setCell ⟨w.heap.size, 1, none⟩ (.bool y.esc)).setCell ⟨w.heap.size, 2, none⟩ (.bool y.bad)).setCell ⟨w.heap.size, 3, none⟩ (.string (bytesOf y.buf)) := ⟨_, rfl⟩
        have kd : ∀ j, j ≠ w.heap.size → wd.heap[j]? = wc.heap[j]? := by
          intro j hj
          rw [hwd, Below.heap_setCell _ _ _ _ hj, Below.heap_setCell _ _ _ _ hj, Below.heap_setCell _ _ _ _ hj, Below.heap_setCell _ _ _ _ hj]
        have zd : wd.heap.size = wc.heap.size := by rw [hwd]; simp [World.setCell]
        have hzc := hbx.size
        have HAd : Hid (wd.heap[w.heap.size]? = some (.cells #[.bool y.inn, .bool y.esc, .bool y.bad, .string (bytesOf y.buf)] 35 (0, 0))) := by
          rw [hwd]
          exact set_at 3 _ (set_at 2 _ (set_at 1 _ (set_at (cs := [.bool i', .bool e', .bool d', .string b']) 0 _ ((hbx.block w.heap.size (by omega)).trans HA.out))))
        have HRd : Hid _ := (kd _ (by omega)).trans ((hbx.block (w.heap.size + 1) (by omega)).trans HRS.out)
        have HCd : Hid _ := (kd _ (by omega)).trans ((hbx.block w1.heap.size (by omega)).trans HC.out)
        have HVd : Hid (OwnS wd (w1.heap.size + 1) v ss) := HV.out.kept fun j h1 h2 => (kd j (by omega)).trans (hbx.block j h2)
        have hbd : Below w.heap.size w wd := by
          have := keepB hbel (Nat.le_refl _) hbx
          rw [hwd]
          exact (((this.setCell (Nat.le_refl _) _).setCell (Nat.le_refl _) _).setCell (Nat.le_refl _) _).setCell (Nat.le_refl _) _
        have hcd : w1.heap.size < wd.heap.size := by omega
        have HY : Hid (wrOf y.inn y.esc y.bad (bytesOf y.buf) = X0.feed (t.data.toList.take (k + 1))) := by rw [wr_parts, feed_more X0 t k hlt, ← HX.out, hy.out]; rfl
        have HF : Hid ((X0.feeds (t.data.toList.take (k + 1))).map bytesOf = ss ++ if h.size = 0 then [] else [h]) := by
          show _ = _
          rw [feeds_more X0 t k hlt, List.map_append, ← HSS.out, ← HX.out, hears_size, hh.out]
        have hy62 : (bytesOf y.buf).size ≤ 62 := by
          rw [bytesOf_size]
          apply right_len
          have := Wr.feed_right (t.data.toList.take (k + 1)) X0 HRT.out
          rw [← HY.out, wr_parts] at this
          exact this
        rw [← hwd]
        clear zd hzc hwd kd a0 a1 a2 a3 g0 g1 g2 g3 cf cl gl HG HA HRS HC HV hbx hbel hzr hy hh HX HSS hgr hb62
        by_cases hh0 : h.size = 0
        · have he : h = ByteArray.empty := by
            apply ByteArray.ext
            exact Array.eq_empty_of_size_eq_zero hh0
          have HF' : Hid ((X0.feeds (t.data.toList.take (k + 1))).map bytesOf = ss) := by rw [HF.out, if_pos hh0, List.append_nil]; rfl
          subst he
          clear HF hh0
          go_wp2
          go_roundw
          case rel => exact ⟨k + 1, y.inn, y.esc, y.bad, bytesOf y.buf, v, ss, by omega, by go_num, HY.out, HF'.out.symm, hy62, by omega, HAd.out, HRd.out, HCd.out, HVd.out, hbd, hcd⟩
          case measure => simp [intOf]; omega
        · have he : ¬ h = ByteArray.empty := fun e => hh0 (by rw [e]; rfl)
          have HF' : Hid ((X0.feeds (t.data.toList.take (k + 1))).map bytesOf = ss ++ [h]) := by rw [HF.out, if_neg hh0]; rfl
          clear HF
          obtain ⟨cc, cfc, _⟩ := cells_at HCd.out
          have c4 := cc 4 _ rfl
          have f4 := cfc 4
          clear cc cfc
          obtain ⟨p, cap, hvs⟩ := HVd.out.shape
          subst hvs
          obtain ⟨i9, hi9, hz90, hz91, hz92⟩ := info_parts info9
          have hown : wd.ownsRow (w1.heap.size + 1) 9 1 (.slice p ss.length cap) ss.length (ss.map Value.string) := HVd.out
          have kk : Hid (∀ W3, (wd.alloc (.cells #[.string h] 9)).grownBy W3 (Value.slice p ss.length cap).ownBlock → ∀ j, j < wd.heap.size → j ≤ w1.heap.size → W3.heap[j]? = wd.heap[j]?) := fun W3 hg j h1 h2 => (hg.block j (by simp; omega) (fun e => by have := (hown.lt j e.symm).1; omega)).trans (heap_alloc_old _ _ h1)
          have q4 : Hid (∀ W3, (wd.alloc (.cells #[.string h] 9)).grownBy W3 (Value.slice p ss.length cap).ownBlock → W3.cell? ⟨w1.heap.size, 4, none⟩ = some (.slice p ss.length cap)) := fun W3 hg => (cells_at ((kk.out W3 hg w1.heap.size hcd (Nat.le_refl _)).trans HCd.out)).1 4 _ rfl
          have qf4 : Hid (∀ W3, (wd.alloc (.cells #[.string h] 9)).grownBy W3 (Value.slice p ss.length cap).ownBlock → W3.frozen? ⟨w1.heap.size, 4, none⟩ = false) := fun W3 hg => (cells_at ((kk.out W3 hg w1.heap.size hcd (Nat.le_refl _)).trans HCd.out)).2.1 4
          go_wp2_with (at_builtin; refine wpList_append_own _ rfl (.tmp 36) (.tmp 38) 38 rfl (w1.heap.size + 1) 9 i9 (.string ⟨#[]⟩) 1 16 Try.underlying38 hi9 hz90 hz91 hz92 rfl (by decide) _ _ _ rfl (hown.alloc _) ⟨wd.heap.size, 0, none⟩ 1 1 [_] rfl rfl (cells_new _ _ _) (by intro x hx; simp at hx; subst hx; rfl) (by unfold maxLen; omega) (by omega) (by simp; omega) ?_; intro v' w3 hown' hgrow _; obtain ⟨p', c', rfl⟩ := own_shape hown'; have c43 := q4.out w3 hgrow; have f43 := qf4.out w3 hgrow)
          have kC := kk.out w3 hgrow
          have HC3 : Hid _ := (kC w1.heap.size hcd (Nat.le_refl _)).trans HCd.out
          have cl3 := (cells_at HC3.out).2.2
          have hb3 : Below w.heap.size w w3 := (hbd.alloc hbd.size _).grown hgrow (by simp; omega) (fun j e => by have := (hown.lt j e).1; omega)
          go_roundw
          case rel =>
            refine ⟨k + 1, y.inn, y.esc, y.bad, bytesOf y.buf, _, ss ++ [h], by omega, by go_num, HY.out, HF'.out.symm, hy62, by simp; omega, ?_, ?_, set_at (cs := [.bool false, .bool false, .bool false, .string ⟨#[]⟩, .slice p ss.length cap, .int .i64 0]) 4 _ HC3.out, ?_, hb3.setCell (by show _ ≤ w1.heap.size; omega) _, by simpa [World.setCell] using cl3⟩
            · exact (Below.heap_setCell _ _ _ _ (by show _ ≠ w1.heap.size; omega)).trans ((kC _ (by omega) (by omega)).trans HAd.out)
            · exact (Below.heap_setCell _ _ _ _ (by show _ ≠ w1.heap.size; omega)).trans ((kC _ (by omega) (by omega)).trans HRd.out)
            · have h3 : OwnS w3 (w1.heap.size + 1) (.slice p' (ss.length + 1) c') (ss ++ [h]) := by
                unfold OwnS
                rw [List.length_append, List.map_append]
                exact hown'
              exact h3.kept fun j q1 q2 => Below.heap_setCell _ _ _ _ (by show _ ≠ w1.heap.size; omega)
          case measure => simp [intOf]; omega
    · obtain ⟨ca, cf, cl⟩ := cells_at HA.out
      have a0 := ca 0 _ rfl
      have a1 := ca 1 _ rfl
      have a2 := ca 2 _ rfl
      have a3 := ca 3 _ rfl
      clear ca cf
      obtain ⟨cc, cfc, clc⟩ := cells_at HC.out
      have c0 := cc 0 _ rfl
      have c1 := cc 1 _ rfl
      have c2 := cc 2 _ rfl
      have c3 := cc 3 _ rfl
      have c4 := cc 4 _ rfl
      have c5 := cc 5 _ rfl
      obtain ⟨cr, cfr, clr⟩ := cells_at HRS.out
      have r0 := cr 0 _ rfl
      have r1 := cr 1 _ rfl
      have r2 := cr 2 _ rfl
      have r3 := cr 3 _ rfl
      have r4 := cr 4 _ rfl
      have r5 := cr 5 _ rfl
      clear cc cr
      have n1 : ¬ w1.heap.size = w.heap.size + 1 := by omega
      have n2 : ¬ w.heap.size + 1 = w1.heap.size := by omega
      obtain ⟨p, cap, hvs⟩ := HV.out.shape
      subst hvs
      go_wp2
      have ek : t.data.toList.take k = t.data.toList := List.take_of_length_le (by rw [list_length]; omega)
      have hX := HX.out
      have hSS := HSS.out
      have hV := HV.out
      rw [ek] at hX hSS
      rw [hX0.out, ← hX, ← hSS]
      refine bodyPost_ret (v := .agg #[.bool i', .bool e', .bool d', .string b', .slice p ss.length cap, .int .i64 0]) (by simp [results, Try.results25, go_sem, a0, a1, a2, a3, c0, c1, c2, c3, c4, c5, r0, r1, r2, r3, r4, r5, n1, n2]) rfl ⟨.slice p ss.length cap, ?_, ?_, ?_⟩
      · unfold foV wrOf
        rw [bytesOf_data]
      · refine OwnS.mono (base := w1.heap.size + 1) ?_ (by omega)
        exact hV.kept fun j q1 q2 => by
          have m1 : j ≠ w1.heap.size := by omega
          have m2 : j ≠ w.heap.size + 1 := by omega
          repeat (first | rw [Below.heap_setCell _ _ _ _ m1] | rw [Below.heap_setCell _ _ _ _ m2])
      · repeat (refine Below.setCell ?_ (by first | (show _ ≤ w1.heap.size; omega) | (show _ ≤ w.heap.size + 1; omega)) _)
        exact hbel
end Go.Proofs.Ytiaphaghjklhaaa
