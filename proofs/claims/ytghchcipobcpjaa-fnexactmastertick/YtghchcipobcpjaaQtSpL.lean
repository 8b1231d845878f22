/- A QUESTION ISSUED, the model's: whole. -/
import Derived.Test.YtghchcipobcpjaaQtSpK
namespace Go.Proofs.Ytghchcipobcpjaa
open Go.RowKit
set_option linter.unusedVariables false
set_option linter.unusedSimpArgs false

theorem specIssue_any (s : Mst) (v1 v2 : Value) (ask : ByteArray) (w : World) (ht : s.tot ≤ 1048576) (hask : ask.size ≤ maxLen) (h : RowMst w v1 v2 s) :
    Calls Try.prog 6 #[.agg #[.int .i64 s.nx, v1, v2], .string ask] w fun e w' => ∃ u1 u2 u3, e = .returned (.agg #[.int .i64 (issueM s ask).m.nx, u1, u2, u3, .int .i64 (issueM s ask).id, .int .i64 (issueM s ask).co]) ∧ OwnMo w' w.heap.size w'.heap.size u1 u2 u3 (issueM s ask) ∧ Below w.heap.size w w' := by
  have nil : ∀ (c : Int) (w' : World), Below w.heap.size w w' → OwnMo w' w.heap.size w'.heap.size (.slice none 0 0) (.slice none 0 0) (.slice none 0 0) (moIll c) := fun c w' hb => OwnMo.nil c hb.size
  unfold issueM
  by_cases h8 : 8000 < ask.size
  · rw [if_pos h8]
    exact (specIssue2 s v1 v2 ask w ht hask h h8).mono fun e w' q => ⟨_, _, _, q.1, nil 2 w' q.2, q.2⟩
  rw [if_neg h8]
  by_cases hn : s.right = true ∧ bodyB ask = true
  · rw [if_pos hn]
    by_cases hfu : fullB s = true
    · rw [if_pos hfu]
      exact (specIssue9 s v1 v2 ask w ht hask h h8 hn.1 hn.2 hfu).mono fun e w' q => ⟨_, _, _, q.1, nil 9 w' q.2, q.2⟩
    · rw [if_neg hfu]
      exact specIssue0 s v1 v2 ask w ht hask h h8 hn.1 hn.2 (by simpa using hfu)
  · rw [if_neg hn]
    exact (specIssue1 s v1 v2 ask w ht hask h h8 hn).mono fun e w' q => ⟨_, _, _, q.1, nil 1 w' q.2, q.2⟩
end Go.Proofs.Ytghchcipobcpjaa
