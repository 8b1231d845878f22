/- THE WALKS of the check's bytes, the escapes and the frame of a body, the program's and the model's. -/
import Derived.Test.YtiaphaghjklhaaaProg
import Derived.Test.YtiaphaghjklhaaaPlain
import Derived.Test.YtiaphaghjklhaaaLaws
import Derived.Test.YtiaphaghjklhaaaOwnM
import Derived.Test.YtiaphaghjklhaaaFcs
import Derived.Test.YtiaphaghjklhaaaPlainFrame
import Derived.Test.YtiaphaghjklhaaaJoin2
import Derived.WalkKit
import Derived.WalkSpells
import Derived.Outline
import Derived.Below
import Derived.Maps.AppendAt
namespace Go.Proofs.Ytiaphaghjklhaaa
open Go.RowKit
set_option linter.unusedVariables false

theorem checkB_eq (s : ByteArray) : checkB s = bytesOf (checkL s.data.toList) := rfl
theorem check_cells (s : ByteArray) (c : Nat) (hc : fcsL s.data.toList = c) (hl : c < 65536) : cellsB (checkB s) = [.int .u8 ((c : Int) % 256), .int .u8 ((c : Int) / 256)] := by
  have e : (checkB s).data.toList = [UInt8.ofNat (c % 256), UInt8.ofNat (c / 256)] := by rw [← hc]; rfl
  unfold cellsB
  rw [e]
  simp only [List.map_cons, List.map_nil, UInt8.toNat_ofNat']
  refine congr (congrArg _ (val_int (by omega))) (congr (congrArg _ (val_int (by omega))) rfl)
set_option maxRecDepth 100000 in
theorem l02Check_any (s : ByteArray) (w : World) (hs : s.size ≤ maxLen) :
    Calls Try.prog 69 #[.string s] w fun e w' => e = .returned (.string (checkB s)) ∧ Below w.heap.size w w' := by
  have HF : Hid (∀ w : World, Calls Try.prog 73 #[.string s] w fun e w' => e = .returned (.int .i64 (fcsL s.data.toList : Nat)) ∧ w = w') := fun w => l02Fcs_any s w hs
  have hl := fcsL_lt s.data.toList
  have HC : Hid _ := check_cells s
  generalize fcsL s.data.toList = c at HF hl HC
  have hcv := Lib.run_convert_whole (P := Try.prog) (w.alloc (.cells (cellsB (checkB s)).toArray 5)) 22 5 9 Try.underlying22 Try.underlying5 Try.underlying9 w.heap.size 0 (checkB s) (bytes_of_cells (checkB s) (heap_alloc_new w _) (by rw [checkB_size]; rfl)) 2
  rw [checkB_size, HC.out c rfl hl] at hcv
  go_enter Try.func69, Try.ntmps69
  go_wp2_with (go_at_call 73; refine (HF.out _).mono ?_; rintro e w' ⟨rfl, rfl⟩)
  go_ret
  exact ⟨rfl, (Below.refl _ _).alloc (Nat.le_refl _) _⟩
set_option maxRecDepth 100000 in
theorem checkText_any (s : ByteArray) (w : World) (hs : s.size ≤ 8000) :
    Calls Try.prog 59 #[.string s] w fun e w' => e = .returned (.string (checkB s)) ∧ Below w.heap.size w w' := by
  have HF : Hid (∀ w : World, Calls Try.prog 26 #[.string s] w fun e w' => e = .returned (.int .i64 (fcsL s.data.toList : Nat)) ∧ w = w') := fun w => by
    have := fcs_any s w (by unfold maxLen; omega)
    unfold fcsV at this
    rwa [if_neg (by omega)] at this
  have hl := fcsL_lt s.data.toList
  have HC : Hid _ := check_cells s
  generalize fcsL s.data.toList = c at HF hl HC
  have hcv := Lib.run_convert_whole (P := Try.prog) (w.alloc (.cells (cellsB (checkB s)).toArray 5)) 22 5 9 Try.underlying22 Try.underlying5 Try.underlying9 w.heap.size 0 (checkB s) (bytes_of_cells (checkB s) (heap_alloc_new w _) (by rw [checkB_size]; rfl)) 2
  rw [checkB_size, HC.out c rfl hl] at hcv
  go_enter Try.func59, Try.ntmps59
  go_wp2_with (go_at_call 26; refine (HF.out _).mono ?_; rintro e w' ⟨rfl, rfl⟩)
  go_ret
  exact ⟨rfl, (Below.refl _ _).alloc (Nat.le_refl _) _⟩
theorem needsEscape_any (c : UInt8) (w : World) :
    Calls Try.prog 96 #[.int .u8 c.toNat] w fun e w' => e = .returned (.bool (needE c)) ∧ w = w' := by
  have h1 := is126 c
  have h2 := is125 c
  unfold needE
  by_cases a1 : c = 126
  · rw [a1]
    go_enter Try.func96, Try.ntmps96
    go_wp2
    go_ret
    exact ⟨rfl, rfl⟩
  · simp only [a1, decide_false] at h1
    by_cases a2 : c = 125
    · rw [a2]
      go_enter Try.func96, Try.ntmps96
      go_wp2
      go_ret
      exact ⟨rfl, rfl⟩
    · simp only [a2, decide_false] at h2
      go_enter Try.func96, Try.ntmps96
      go_wp2
      go_ret
      exact ⟨ret_bool (by simp [a1, a2]), rfl⟩
theorem cells_new (w : World) (xs : List Value) (t : TypeId) : ∀ j u, xs[j]? = some u → (w.alloc (.cells xs.toArray t)).cell? ((⟨w.heap.size, 0, none⟩ : Addr).add j) = some u := by
  intro j u hu
  have hadd : (⟨w.heap.size, 0, none⟩ : Addr).add j = ⟨w.heap.size, j, none⟩ := by unfold Addr.add; split <;> simp_all
  rw [hadd, cell_of_row _ w.heap.size j xs.toArray t (0, 0) (heap_alloc_new w _)]
  simpa using hu
theorem esc_step {s : ByteArray} {k : Nat} (h : k < s.size) : escL (s.data.toList.take (k + 1)) = escL (s.data.toList.take k) ++ esc1 s[k] := by
  rw [take_snoc s k h, escL_snoc]
theorem own_add {w : World} {base : Nat} {e : TypeId} {v : Value} {n m : Nat} {l x y : List UInt8} (hn : l.length = n) (hm : x.length = m) (hy : y = l ++ x) (h : w.ownsRow base e 1 v (n + m) (cellsC l ++ cellsC x)) :
    w.ownsRow base e 1 v y.length (cellsC y) := by
  rw [hy, List.length_append, cellsC_append, hn, hm]; exact h
theorem esc_len (s : ByteArray) (k : Nat) (hs : s.size ≤ 100000) : (escL (s.data.toList.take k)).length ≤ 200000 := by
  have h1 := (escL_length (s.data.toList.take k)).2
  have h2 := List.length_take_le k s.data.toList
  have h3 : (s.data.toList.take k).length ≤ s.data.toList.length := by rw [List.length_take]; omega
  rw [list_length] at h3
  omega

set_option maxRecDepth 100000 in
set_option maxHeartbeats 800000 in
theorem escapeText_any (s : ByteArray) (w : World) (hs : s.size ≤ 100000) :
    Calls Try.prog 58 #[.string s] w fun e w' => e = .returned (.string (bytesOf (escL s.data.toList))) ∧ Below w.heap.size w w' := by
  obtain ⟨i0, hi, hz0, hz1, hz2⟩ := info_parts info5
  go_enter Try.func58, Try.ntmps58
  go_wp2
  go_loopw [3, 7] (fun v i wr => ∃ (k : Nat) (l : List UInt8), k ≤ s.size ∧ i = .int .i64 k ∧ Hid (l = escL (s.data.toList.take k)) ∧ l.length ≤ 200000 ∧ wr.ownsRow w.heap.size 5 1 v l.length (cellsC l) ∧ Below w.heap.size w wr)
    (fun _ i _ => s.size - (intOf i).toNat)
  case atStart => exact ⟨0, [], Nat.zero_le _, rfl, rfl, by simp, World.ownsRow_nil _ _ _ _, Below.refl _ _⟩
  case round =>
    obtain ⟨k, l, hk, rfl, HL, hll, hown, hbel⟩ := hrel
    have hsz := hbel.size
    by_cases hlt : k < s.size
    · have HST : Hid _ := @esc_step s k hlt
      have hlen := esc_len s (k + 1) hs
      rw [HST.out, ← HL.out] at hlen
      rw [← HL.out] at HST
      have e32 := xor32 s[k]
      have HNE : Hid _ := fun w => needsEscape_any s[k] w
      obtain ⟨c, HC⟩ : ∃ c, Hid (s[k] = c) := ⟨_, show _ = _ from rfl⟩
      rw [HC.out] at e32 HST hlen HNE
      by_cases hE : needE c = true
      · rw [hE] at HNE
        have e1 : esc1 c = [125, c ^^^ 32] := by unfold esc1; rw [if_pos ((needE_iff c).1 hE)]
        rw [e1] at HST hlen
        rw [← HC.out] at e32 HNE
        have hlen2 : l.length + 2 ≤ 200000 := by rw [List.length_append] at hlen; exact hlen
        clear hlen hE e1
        go_wp2_with (first
          | (go_at_call 96; refine (HNE.out _).mono ?_; rintro e w1 ⟨rfl, rfl⟩)
          | (at_builtin; refine wpList_append_own _ rfl (.tmp 14) (.tmp 19) 22 rfl w.heap.size 5 i0 (.int .u8 0) 1 1 Try.underlying22 hi hz0 hz1 hz2 rfl (by decide) _ _ _ rfl (hown.alloc _) ⟨wr.heap.size, 0, none⟩ 2 2 [_, _] rfl rfl (cells_new _ _ _) (by intro x hx; simp at hx; rcases hx with rfl | rfl <;> rfl) (by unfold maxLen; omega) (by omega) (by simp; omega) ?_; intro v' w2 hown' hgrow _))
        go_roundw
        case rel => exact ⟨k + 1, l ++ [125, c ^^^ 32], by omega, by go_num, HST.out.symm, by rw [List.length_append]; exact hlen2, own_add rfl rfl rfl (by rw [← HC.out]; exact hown'), (hbel.alloc hsz _).grown hgrow (by simp; omega) (fun k e => (hown.lt k e).1)⟩
        case measure => simp [intOf]; omega
      · have hE' : needE c = false := by simpa using hE
        rw [hE'] at HNE
        have e1 : esc1 c = [c] := by unfold esc1; rw [if_neg (fun h => hE ((needE_iff c).2 h))]
        rw [e1] at HST hlen
        rw [← HC.out] at HNE
        have hlen2 : l.length + 1 ≤ 200000 := by rw [List.length_append] at hlen; exact hlen
        clear hlen hE hE' e1 e32
        go_wp2_with (first
          | (go_at_call 96; refine (HNE.out _).mono ?_; rintro e w1 ⟨rfl, rfl⟩)
          | (at_builtin; refine wpList_append_own _ rfl (.tmp 21) (.tmp 25) 22 rfl w.heap.size 5 i0 (.int .u8 0) 1 1 Try.underlying22 hi hz0 hz1 hz2 rfl (by decide) _ _ _ rfl (hown.alloc _) ⟨wr.heap.size, 0, none⟩ 1 1 [_] rfl rfl (cells_new _ _ _) (by intro x hx; simp at hx; subst hx; rfl) (by unfold maxLen; omega) (by omega) (by simp; omega) ?_; intro v' w2 hown' hgrow _))
        go_roundw
        case rel => exact ⟨k + 1, l ++ [c], by omega, by go_num, HST.out.symm, by rw [List.length_append]; exact hlen2, own_add rfl rfl rfl (by rw [← HC.out]; exact hown'), (hbel.alloc hsz _).grown hgrow (by simp; omega) (fun k e => (hown.lt k e).1)⟩
        case measure => simp [intOf]; omega
    · have hcv := OwnM.conv (P := Try.prog) 22 9 Try.underlying22 Try.underlying5 Try.underlying9 (OwnM.own hown)
      go_wp2
      go_ret
      exact ⟨by rw [HL.out, List.take_of_length_le (by rw [list_length]; omega)]; rfl, hbel⟩
end Go.Proofs.Ytiaphaghjklhaaa
