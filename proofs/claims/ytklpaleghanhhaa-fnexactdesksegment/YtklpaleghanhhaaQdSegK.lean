/- A RIGHT SEGMENT: the program's. Written by mksegk.py. -/
import Derived.Test.YtklpaleghanhhaaQdSegJ
import Derived.Test.YtklpaleghanhhaaQdStnL
namespace Go.Proofs.Ytklpaleghanhhaa
open Go.RowKit
set_option linter.unusedVariables false
set_option linter.unusedSimpArgs false

/-- stations that are read, as a list of what lies there -/
theorem RowSt.seats {w : World} {v : Value} {ss : List Stn} (h : RowSt w v ss) (us : List Bool) (hu : us.length = ss.length) (h0 : 0 < ss.length) :
    ∃ (g c : Nat) (cs : List (Stn × Vs × Bool)), v = .slice (some ⟨g, 0, none⟩) ss.length c ∧ g < w.heap.size ∧ cs.length = ss.length ∧ cs.map (·.1.ad) = ss.map Stn.ad ∧
      (∀ k (hk : k < cs.length), w.rangeAt g (k * 19) (stC cs[k].1 cs[k].2.1) ∧ cs[k].2.1.ok) ∧ (∀ k (hk : k < cs.length) (hk' : k < us.length), cs[k].2.2 = us[k]) ∧ (∀ k (hk : k < cs.length) (hk' : k < ss.length), cs[k].1 = ss[k]) := by
  obtain ⟨p, c, rfl, h⟩ := h
  obtain ⟨g, u0, rfl, hl, _⟩ := h 0 h0
  have H : ∀ k, ∃ u : Vs, ∀ (hk : k < ss.length), w.rangeAt g (k * 19) (stC ss[k] u) ∧ u.ok := fun k => by
    by_cases hk : k < ss.length
    · obtain ⟨g', u, e, _, q, r1, r2, r3, r4⟩ := h k hk
      cases e
      refine ⟨u, fun _ => ⟨q, ?_, ?_, ?_, ?_⟩⟩
      · obtain ⟨a, b, e, _⟩ := r1; exact ⟨a, _, b, e⟩
      · obtain ⟨a, b, e, _⟩ := r2; exact ⟨a, _, b, e⟩
      · obtain ⟨a, b, e, _⟩ := r3; exact ⟨a, _, b, e⟩
      · obtain ⟨a, b, e, _⟩ := r4; exact ⟨a, _, b, e⟩
    · exact ⟨u0, fun hh => absurd hh hk⟩
  obtain ⟨f, hf⟩ := Classical.axiomOfChoice H
  refine ⟨g, c, (List.range ss.length).map fun k => (ss.getD k (newS 0 0), f k, us.getD k false), rfl, hl, by simp, ?_, fun k hk => ?_, fun k hk hk' => ?_, fun k hk hk' => ?_⟩
  · apply List.ext_getElem
    · simp
    · intro k h1 h2
      have hk : k < ss.length := by simpa using h2
      simp only [List.getElem_map, List.getElem_range]
      rw [getD_at ss _ hk]
  · have hk' : k < ss.length := by simpa using hk
    simp only [List.getElem_map, List.getElem_range]
    rw [getD_at ss _ hk']
    exact hf k hk'
  · simp only [List.getElem_map, List.getElem_range]
    exact getD_at us false hk'
  · simp only [List.getElem_map, List.getElem_range]
    exact getD_at ss _ hk'
theorem Seg.right_of {s : Seg} (h1 : 1 ≤ s.ss.length) (h2 : s.ss.length ≤ 4) (h3 : s.us.length = s.ss.length) (h4 : notesB s.ns = true) (h5 : s.ss.all Stn.right = true) : s.right = riseQ (s.ss.map Stn.ad) := by
  unfold Seg.right
  rw [decide_eq_true h1, decide_eq_true h2, decide_eq_true h3, h4, h5]
  rfl
end Go.Proofs.Ytklpaleghanhhaa
