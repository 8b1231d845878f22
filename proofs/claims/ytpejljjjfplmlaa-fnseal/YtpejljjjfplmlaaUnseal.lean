/- THE WALKS of Unseal, the program's and the model's: both answer the same text and code. -/
import Derived.Test.YtpejljjjfplmlaaProg
import Derived.Test.YtpejljjjfplmlaaSeal
import Derived.WalkKit
import Derived.WalkSpells
import Derived.Outline
import Derived.Deep.RegionHeld3
namespace Go.Proofs.Ytpejljjjfplmlaa
open Go.RowKit

theorem bcell {B : Nat} {W w1 : World} (hb : Below B W w1) : (∀ b o, b < B → w1.cell? ⟨b, o, none⟩ = W.cell? ⟨b, o, none⟩) ∧ (∀ b o, b < B → w1.frozen? ⟨b, o, none⟩ = W.frozen? ⟨b, o, none⟩) :=
  ⟨fun b o h => hb.cell (p := ⟨b, o, none⟩) h, fun b o h => hb.frozen (p := ⟨b, o, none⟩) h⟩

theorem keepS {B : Nat} {W a b : World} (h : Below B W a) (hB : B ≤ W.heap.size) (k : Below a.heap.size a b) : Below B W b := h.trans (k.mono (Nat.le_trans hB h.size))
theorem beq_no {a b : ByteArray} (h : a ≠ b) : (a.toList == b.toList) = false := by
  rw [Lib.toList_data, Lib.toList_data]
  simp only [beq_eq_false_iff_ne, ne_eq]
  intro e
  exact h (ByteArray.ext (Array.toList_inj.1 e))
theorem beq_yes {a b : ByteArray} (h : a = b) : (a.toList == b.toList) = true := by rw [h]; simp
theorem cut_join (s : ByteArray) (k : Nat) : s.extract 0 k ++ s.extract k s.size = s := by
  apply ByteArray.ext
  apply Array.toList_inj.1
  rw [ByteArray.data_append, Array.toList_append, Lib.extract_data, Lib.extract_data, List.drop_zero, Nat.sub_zero]
  rw [List.take_of_length_le (l := List.drop k s.data.toList) (by rw [List.length_drop, Array.length_toList]; exact Nat.le_refl _), List.take_append_drop]
theorem append_inj {t a b : ByteArray} (h : t ++ a = t ++ b) : a = b := by
  have := congrArg (fun x => x.data.toList) h
  simp only [ByteArray.data_append, Array.toList_append] at this
  exact ByteArray.ext (Array.toList_inj.1 (List.append_cancel_left this))
theorem seal_iff (s : ByteArray) (h1 : s.size ≤ 8000) (h2 : 4 ≤ s.size) : sealB (s.extract 0 (s.size - 4)) = s ↔ fourB (crcM 0 (s.extract 0 (s.size - 4))).toNat = s.extract (s.size - 4) s.size := by
  have hz : (s.extract 0 (s.size - 4)).size ≤ 7996 := by rw [ByteArray.size_extract]; omega
  have hj := cut_join s (s.size - 4)
  unfold sealB
  rw [if_neg (by omega)]
  constructor
  · intro h
    exact append_inj (h.trans hj.symm)
  · intro h
    rw [h]; exact hj
def textOut (t : ByteArray) (n c : Int) : Value := .agg #[.string t, .int .i64 n, .int .i64 c]
def unsealV (s : ByteArray) : Value :=
  if 8000 < s.size then textOut ByteArray.empty 0 2 else if s.size < 4 then textOut ByteArray.empty 0 4
  else if sealB (s.extract 0 (s.size - 4)) = s then textOut (s.extract 0 (s.size - 4)) 0 0 else textOut ByteArray.empty 0 5
theorem unsealV_form (s : ByteArray) : ∃ t n c, unsealV s = textOut t n c := by
  unfold unsealV
  split
  · exact ⟨_, _, _, rfl⟩
  · split
    · exact ⟨_, _, _, rfl⟩
    · split
      · exact ⟨_, _, _, rfl⟩
      · exact ⟨_, _, _, rfl⟩
set_option maxRecDepth 100000 in
theorem unseal_any (s : ByteArray) (w : World) (hs : s.size ≤ maxLen) :
    Calls Try.prog 9 #[.string s] w fun e w' => e = .returned (unsealV s) ∧ Below w.heap.size w w' := by
  unfold maxLen at hs
  unfold unsealV
  by_cases h1 : 8000 < s.size
  · rw [if_pos h1]
    go_enter Try.func9, Try.ntmps9
    go_wp2
    exact bodyPost_ret (v := textOut ByteArray.empty 0 2) (by simp [results, Try.results9, go_sem, textOut]; rfl) rfl ⟨rfl, (Below.refl _ _).alloc (Nat.le_refl _) _⟩
  rw [if_neg h1]
  by_cases h2 : s.size < 4
  · rw [if_pos h2]
    go_enter Try.func9, Try.ntmps9
    go_wp2
    exact bodyPost_ret (v := textOut ByteArray.empty 0 4) (by simp [results, Try.results9, go_sem, textOut]; rfl) rfl ⟨rfl, (Below.refl _ _).alloc (Nat.le_refl _) _⟩
  rw [if_neg h2]
  obtain ⟨t, HT⟩ : ∃ t, Hid (s.extract 0 (s.size - 4) = t) := ⟨_, show _ = _ from rfl⟩
  have HZ : Hid (t.size ≤ maxLen) := show _ ≤ _ by rw [← HT.out, ByteArray.size_extract]; unfold maxLen; omega
  have hz2 : t.size ≤ 1073741824 := by rw [← HT.out, ByteArray.size_extract]; omega
  have hsl : ∀ w, (Instr.slice 9 (.string s) none (some (.int .i64 ((s.size : Int) - 4))) none).run Try.prog w = .ok (.string t) w := by
    intro w
    rw [← HT.out, run_slice_string_to_if w 9 s .i64 ((s.size : Int) - 4) Try.underlying9, if_pos (by omega)]
    congr 4
    omega
  rw [HT.out]
  by_cases h3 : sealB t = s
  · rw [if_pos h3]
    have e1 := beq_yes h3
    clear h3
    go_enter Try.func9, Try.ntmps9
    go_wp2_with (first | (go_at_call 6; refine (seal_any t _ HZ.out).mono ?_; rintro e w1 ⟨rfl, hb1⟩; obtain ⟨hc1, hf1⟩ := bcell hb1; have hz1 : w.heap.size < w1.heap.size := (by have := hb1.size; simp at this; omega)) | (go_at_call 38; refine (copyText_any t _ hz2).mono ?_; rintro e w2 ⟨rfl, hb2⟩; obtain ⟨hc2, hf2⟩ := bcell hb2))
    exact bodyPost_ret (v := textOut t 0 0) (by simp [results, Try.results9, go_sem, textOut, hc2, hc1, hz1]) rfl ⟨rfl, (((((((Below.refl _ _).alloc (Nat.le_refl _) _).trans (hb1.mono (by simp))).trans (hb2.mono (by omega))).setCell (by simp) _).setCell (by simp) _).setCell (by simp) _)⟩
  · rw [if_neg h3]
    have e1 := beq_no h3
    clear h3
    go_enter Try.func9, Try.ntmps9
    go_wp2_with (first | (go_at_call 6; refine (seal_any t _ HZ.out).mono ?_; rintro e w1 ⟨rfl, hb1⟩; obtain ⟨hc1, hf1⟩ := bcell hb1; have hz1 : w.heap.size < w1.heap.size := (by have := hb1.size; simp at this; omega)))
    exact bodyPost_ret (v := textOut ByteArray.empty 0 5) (by simp [results, Try.results9, go_sem, textOut, hc1]; rfl) rfl ⟨rfl, ((((((Below.refl _ _).alloc (Nat.le_refl _) _).trans (hb1.mono (by simp))).setCell (by simp) _).setCell (by simp) _).setCell (by simp) _)⟩

end Go.Proofs.Ytpejljjjfplmlaa
