/- THE WALK of the program's readNums: so many numbers from a place on, or why not. -/
import Derived.Test.YthmbfkppjijelaaGetN
import Derived.Test.YthmbfkppjijelaaPlainSay
import Derived.Test.YthmbfkppjijelaaInts
import Derived.Test.YthmbfkppjijelaaIntsIn
import Derived.WalkKit
import Derived.WalkSpells
import Derived.Outline
import Derived.Below
namespace Go.Proofs.Ythmbfkppjijelaa
open Go.RowKit
set_option linter.unusedVariables false
set_option linter.unusedSimpArgs false

theorem OwnI.snoc {w : World} {base : Nat} {v : Value} {l : List Int} {n : Int} (h : w.ownsRow base 2 1 v (l.length + 1) (l.map (Value.int .i64) ++ [.int .i64 n])) : OwnI w base v (l ++ [n]) := by
  unfold OwnI
  rw [List.length_append, List.map_append]
  exact h
/-- what readNums answers -/
def NumsOut (s : ByteArray) (a m : Int) (w : World) (e : Ending) (w' : World) : Prop :=
  (∃ (v : Value) (l : List Int) (q : Int), numsR s a m.toNat = some (l, q) ∧ e = .returned (.tuple #[v, .int .i64 q, .nilIface]) ∧ OwnI w' w.heap.size v l ∧ Below w.heap.size w w') ∨
  (∃ c : Int, numsR s a m.toNat = none ∧ e = .returned (.tuple #[.slice none 0 0, .int .i64 0, .iface 101 (.agg #[.int .i64 c])]) ∧ Below w.heap.size w w')
set_option maxRecDepth 100000 in
set_option maxHeartbeats 1600000 in
theorem readNums_any (s : ByteArray) (a m : Int) (w : World) (hs : s.size ≤ 8000) (ha : 0 ≤ a) (has : a ≤ s.size) :
    Calls Try.prog 64 #[.string s, .int .i64 a, .int .i64 m] w (NumsOut s a m w) := by
  obtain ⟨i0, hi, hz0, hz1, hz2⟩ := info_parts info64
  have HRN : Hid (∀ (q : Int) (w : World), Calls Try.prog 75 #[.string s, .int .i64 q] w fun e w' => e = .returned (tupR (getR s q)) ∧ w = w') := fun q w => readNum_any s q w hs
  have HBAD : Hid (∀ q, (getR s q).2.2 ≠ 0 → getR s q = (0, 0, (getR s q).2.2)) := getR_bad s
  have HAT : Hid (∀ {k : Nat} {l : List Int} {q : Int}, numsR s a k = some (l, q) → 0 ≤ q ∧ q ≤ s.size ∧ a + k ≤ q) := fun h => numsR_at ha has h
  have HLEN : Hid (∀ {k : Nat} {l : List Int} {q : Int}, numsR s a k = some (l, q) → l.length = k) := fun h => numsR_len h
  obtain ⟨M, hM⟩ : ∃ M : Nat, m.toNat = M := ⟨_, rfl⟩
  have HP : Hid (∀ e w', ((∃ (v : Value) (l : List Int) (q : Int), numsR s a M = some (l, q) ∧ e = .returned (.tuple #[v, .int .i64 q, .nilIface]) ∧ OwnI w' w.heap.size v l ∧ Below w.heap.size w w') ∨ (∃ c : Int, numsR s a M = none ∧ e = .returned (.tuple #[.slice none 0 0, .int .i64 0, .iface 101 (.agg #[.int .i64 c])]) ∧ Below w.heap.size w w')) → NumsOut s a m w e w') := fun e w' h => by unfold NumsOut; rw [hM]; exact h
  generalize hNO : NumsOut s a m w = NO at HP ⊢
  go_enter Try.func64, Try.ntmps64
  go_wp2
  go_loopw [1, 9, 14] (fun at_ nums i wr => ∃ (k : Nat) (l : List Int) (q : Int), k ≤ M ∧ i = .int .i64 k ∧ at_ = .int .i64 q ∧ Hid (numsR s a k = some (l, q)) ∧ Hid (OwnI wr w.heap.size nums l) ∧ Below w.heap.size w wr) (fun _ _ i _ => M - (intOf i).toNat)
  case atStart => exact ⟨0, [], a, Nat.zero_le _, rfl, rfl, rfl, OwnI.nil _ _, Below.refl _ _⟩
  case round =>
    obtain ⟨k, l, q, hk, rfl, rfl, HN, HO, hbel⟩ := hrel
    have hat := HAT.out HN.out
    have hlen := HLEN.out HN.out
    have hsz := hbel.size
    by_cases hlt : (k : Int) < m
    · have hkM : k < M := by omega
      have HC : Hid _ := HRN.out q
      have hbad := HBAD.out q
      have HMORE : Hid _ := @numsR_more s a q k l HN.out
      have HSTOP : Hid _ := fun h => @numsR_stop s a q k l HN.out h M hkM
      generalize getR s q = r at HC hbad HMORE HSTOP
      obtain ⟨n, q', c⟩ := r
      simp only at hbad HMORE HSTOP
      by_cases hc : c = 0
      · subst hc
        rw [tupR_ok] at HC
        have HM2 : Hid _ := HMORE.out rfl
        clear hbad HMORE HSTOP
        go_wp2_with (first
          | (go_at_call 75; refine (HC.out _).mono ?_; rintro e w1 ⟨rfl, rfl⟩)
          | (at_builtin; refine wpList_append_own _ rfl (.tmp 26) (.tmp 28) 25 rfl w.heap.size 2 i0 (.int .i64 0) 1 8 Try.underlying25 hi hz0 hz1 hz2 rfl (by decide) _ _ _ rfl (World.ownsRow.alloc HO.out _) ⟨wr.heap.size, 0, none⟩ 1 1 [_] rfl rfl (cell_one_new _ _ _) (by intro x hx; simp at hx; subst hx; rfl) (by unfold maxLen; omega) (by omega) (by simp; omega) ?_; intro v' w2 hown' hgrow _))
        go_roundw
        case rel => exact ⟨k + 1, l ++ [n], q', by omega, by go_num, rfl, HM2.out, OwnI.snoc hown', (hbel.alloc hsz _).grown hgrow (by simp; omega) (fun k e => (World.ownsRow.lt HO.out k e).1)⟩
        case measure => simp [intOf]; omega
      · rw [hbad hc, tupR_no hc] at HC
        have HS2 : Hid _ := HSTOP.out hc
        clear hbad HMORE HSTOP
        go_wp2_with (go_at_call 75; refine (HC.out _).mono ?_; rintro e w1 ⟨rfl, rfl⟩)
        exact bodyPost_ret (v := .tuple #[.slice none 0 0, .int .i64 0, .iface 101 (.agg #[.int .i64 c])]) (by simp [results, Try.results64, go_sem]) rfl (HP.out _ _ (.inr ⟨c, HS2.out, rfl, hbel⟩))
    · have hkM : k = M := by omega
      subst hkM
      go_wp2
      exact bodyPost_ret (v := .tuple #[u9, .int .i64 q, .nilIface]) (by simp [results, Try.results64, go_sem]) rfl (HP.out _ _ (.inl ⟨_, l, q, HN.out, rfl, HO.out, hbel⟩))
end Go.Proofs.Ythmbfkppjijelaa
