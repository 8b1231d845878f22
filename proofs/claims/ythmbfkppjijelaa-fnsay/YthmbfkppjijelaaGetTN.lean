/- THE WALKS of GetText, the program's and the model's: both answer the text that stands at the place, the place behind it, and the code. -/
import Derived.Test.YthmbfkppjijelaaProg
import Derived.Test.YthmbfkppjijelaaGetSN
import Derived.Test.YthmbfkppjijelaaJoin2
import Derived.WalkKit
import Derived.WalkSpells
import Derived.Outline
import Derived.Below
import Derived.Deep.RegionHeld3
namespace Go.Proofs.Ythmbfkppjijelaa
open Go.RowKit

def tupT (r : ByteArray × Int × Int) : Value := .tuple #[.string r.1, .int .i64 r.2.1, errV r.2.2]
theorem tupT_ok (t : ByteArray) (p : Int) : tupT (t, p, 0) = .tuple #[.string t, .int .i64 p, .nilIface] := by simp [tupT, errV]
theorem tupT_no {c : Int} (h : c ≠ 0) : tupT (ByteArray.empty, 0, c) = .tuple #[.string ByteArray.empty, .int .i64 0, .iface 101 (.agg #[.int .i64 c])] := by simp [tupT, errV, h]
def textV (r : ByteArray × Int × Int) : Value := .agg #[.string r.1, .int .i64 r.2.1, .int .i64 r.2.2]

set_option maxRecDepth 100000 in
set_option maxHeartbeats 800000 in
theorem readText_any (s : ByteArray) (a : Int) (w : World) (hs : s.size ≤ 8000) :
    Calls Try.prog 65 #[.string s, .int .i64 a] w fun e w' => e = .returned (tupT (getT s a)) ∧ Below w.heap.size w w' := by
  have HRN : Hid (∀ w, Calls Try.prog 75 #[.string s, .int .i64 a] w fun e w' => e = .returned (tupR (getR s a)) ∧ w = w') := fun w => readNum_any s a w hs
  have hbad := getR_bad s a
  have hat := getR_at s a
  unfold getT
  generalize getR s a = R at HRN hbad hat
  obtain ⟨n, q, c⟩ := R
  by_cases hc : c = 0
  · subst hc
    rw [tupR_ok] at HRN
    rw [if_neg (by simp)]
    obtain ⟨hq1, hq2, _⟩ := hat rfl
    simp only at hq1 hq2
    clear hbad hat
    by_cases h1 : n < 0 ∨ 8000 < n
    · rw [if_pos h1, tupT_no (by decide)]
      rcases h1 with h1 | h1
      · go_enter Try.func65, Try.ntmps65
        go_wp2_with (go_at_call 75; refine (HRN.out _).mono ?_; rintro e w1 ⟨rfl, rfl⟩)
        go_ret3
        exact ⟨rfl, Below.refl _ _⟩
      · have h1' : ¬ n < 0 := by omega
        go_enter Try.func65, Try.ntmps65
        go_wp2_with (go_at_call 75; refine (HRN.out _).mono ?_; rintro e w1 ⟨rfl, rfl⟩)
        go_ret3
        exact ⟨rfl, Below.refl _ _⟩
    rw [if_neg h1]
    have h1a : ¬ n < 0 := fun h => h1 (.inl h)
    have h1b : ¬ 8000 < n := fun h => h1 (.inr h)
    clear h1
    by_cases h2 : (s.size : Int) < q + n
    · rw [if_pos h2, tupT_no (by decide)]
      go_enter Try.func65, Try.ntmps65
      go_wp2_with (go_at_call 75; refine (HRN.out _).mono ?_; rintro e w1 ⟨rfl, rfl⟩)
      go_ret3
      exact ⟨rfl, Below.refl _ _⟩
    · rw [if_neg h2, tupT_ok]
      obtain ⟨t, HT⟩ : ∃ t, Hid (s.extract q.toNat (q + n).toNat = t) := ⟨_, show _ = _ from rfl⟩
      rw [HT.out]
      have ht : t.size ≤ 1073741824 := by rw [← HT.out, ByteArray.size_extract]; omega
      have hsl : ∀ w, (Instr.slice 9 (.string s) (some (.int .i64 q)) (some (.int .i64 (q + n))) none).run Try.prog w = .ok (.string t) w := by
        intro w
        rw [← HT.out]
        exact run_slice_string w 9 s .i64 .i64 q (q + n) Try.underlying9 (by omega) (by omega) (by omega)
      go_enter Try.func65, Try.ntmps65
      go_wp2_with (first | (go_at_call 75; refine (HRN.out _).mono ?_; rintro e w1 ⟨rfl, rfl⟩) | (go_at_call 76; refine (copyText_any t _ ht).mono ?_; rintro e w2 ⟨rfl, hb2⟩))
      go_ret3
      exact ⟨rfl, hb2⟩
  · rw [hbad hc] at HRN ⊢
    rw [tupR_no hc] at HRN
    rw [if_pos hc, tupT_no hc]
    clear hbad hat
    go_enter Try.func65, Try.ntmps65
    go_wp2_with (go_at_call 75; refine (HRN.out _).mono ?_; rintro e w1 ⟨rfl, rfl⟩)
    go_ret3
    exact ⟨rfl, Below.refl _ _⟩
end Go.Proofs.Ythmbfkppjijelaa
