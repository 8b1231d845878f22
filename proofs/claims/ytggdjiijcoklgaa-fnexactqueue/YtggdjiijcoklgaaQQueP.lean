/- A TEXT PUT BEHIND an own row of texts: where the row lies then. -/
import Derived.Test.YtggdjiijcoklgaaQMarksQ
import Derived.Test.YtggdjiijcoklgaaQPubS
namespace Go.Proofs.Ytggdjiijcoklgaa
open Go.RowKit
set_option linter.unusedVariables false
set_option linter.unusedSimpArgs false

theorem ownT_src {w : World} {b : Nat} {p : Addr} {n c : Nat} {ss : List ByteArray} (h : OwnT4 w b (.slice (some p) n c) ss) : ∀ j u, (ss.map Value.string)[j]? = some u → w.cell? (p.add j) = some u := by
  intro j u hj
  rw [List.getElem?_map] at hj
  cases hz : ss[j]? with
  | none => rw [hz] at hj; cases hj
  | some z =>
    rw [hz] at hj
    cases hj
    obtain ⟨hlt, hzj⟩ := List.getElem?_eq_some_iff.1 hz
    obtain ⟨g, e, _, _, hq, _⟩ := h.cell j hlt
    cases e
    rw [hzj] at hq
    rw [show (⟨g, 0, none⟩ : Addr).add j = ⟨g, j, none⟩ by unfold Addr.add; split <;> simp_all]
    exact hq
theorem app_textK (w : World) (ty : TypeId) (base : Nat) (v : Value) (xs : List ByteArray) (hown : OwnT4 w base v xs) (g : Nat) (n : ByteArray) (hc : w.cell? ⟨g, 0, none⟩ = some (.string n)) (hl : xs.length ≤ 100000) (hb : base ≤ w.heap.size) :
    ∃ v' w', (Builtin.append_ #[26, 26] ty #[v, .slice (some ⟨g, 0, none⟩) 1 1]).run Try.prog w = .ok v' w' ∧ OwnT4 w' base v' (xs ++ [n]) ∧ w.grownBy w' v.ownBlock ∧ (v'.ownBlock = v.ownBlock ∨ v'.ownBlock = some w.heap.size) := by
  obtain ⟨i0, hi, hz0, hz1, hz2⟩ := info_parts infoT4
  have hnews : ∀ j u, ([Value.string n] : List Value)[j]? = some u → w.cell? ((⟨g, 0, none⟩ : Addr).add j) = some u := by
    intro j u hj
    have hj0 : j = 0 := by
      rcases Nat.eq_zero_or_pos j with h | h
      · exact h
      · rw [List.getElem?_eq_none (by simp; omega)] at hj; cases hj
    subst hj0
    simp at hj
    subst hj
    simpa [Addr.add] using hc
  obtain ⟨v', w', hrun, r1, r2⟩ := app_text w ty base v xs hown g n hc hl hb
  refine ⟨v', w', hrun, r1, r2, ?_⟩
  rcases hown.2 with ⟨rfl, h0⟩ | ⟨k, cap, cur, rfl, hbk, hk, hnc, hcm, hcs, htake⟩
  · have hr := run_append_nil (P := Try.prog) w 26 ty 9 i0 (.string ⟨#[]⟩) Try.underlying26 hi hz0 ⟨g, 0, none⟩ 1 1 [.string n] (by rw [hz1]; rfl) hnews (by omega) (by omega) (by rw [hz2]; omega)
    rw [hr] at hrun
    cases hrun
    exact .inr rfl
  · by_cases hroom : xs.length + 1 ≤ cap
    · have hr := run_append_room (P := Try.prog) w 26 ty 9 i0 Try.underlying26 hi k xs.length cap cur hk ⟨g, 0, none⟩ 1 1 [.string n] (by rw [hz1]; rfl) hnews (by intro u hu; simp at hu; subst hu; rfl) hroom (by rw [hz1]; simp; omega)
      rw [hr] at hrun
      cases hrun
      exact .inl rfl
    · have hr := run_append_grow (P := Try.prog) w 26 ty 9 i0 (.string ⟨#[]⟩) Try.underlying26 hi hz0 ⟨k, 0, none⟩ xs.length cap (xs.map Value.string) (by rw [hz1]; simp) (ownT_src hown) ⟨g, 0, none⟩ 1 1 [.string n] (by rw [hz1]; rfl) hnews (by omega) (by omega) (by rw [hz2]; exact growslice_fits (by omega) (by omega))
      rw [hr] at hrun
      cases hrun
      exact .inr rfl
/-- a text more: in the old stretch, or in a new one behind all that was there -/
theorem OwnTB.more {w w' : World} {lo hi : Nat} {v v' : Value} {ss : List ByteArray} (h : OwnTB w lo hi v ss) {ts : List ByteArray} (h' : OwnT4 w' lo v' ts) (hw : v'.ownBlock = v.ownBlock ∨ v'.ownBlock = some w.heap.size) (hz : w.heap.size < w'.heap.size ∨ v'.ownBlock = v.ownBlock) :
    OwnTB w' lo hi v' ts ∨ OwnTB w' w.heap.size w'.heap.size v' ts := by
  rcases hw with e | e
  · exact .inl ⟨h', fun k hk => h.2 k (by rw [← e]; exact hk)⟩
  · refine .inr ⟨?_, fun k hk => (h'.lt k hk).2⟩
    refine ⟨h'.1, h'.2.imp id ?_⟩
    rintro ⟨g, cap, cur, e1, e2, e3⟩
    refine ⟨g, cap, cur, e1, ?_, e3⟩
    rw [e1] at e
    have : g = w.heap.size := by simpa [Value.ownBlock] using e
    omega
/-- the like, where the row's lowest place is told otherwise -/
theorem OwnTB.more2 {w w' : World} {lo hi B : Nat} {v v' : Value} {ss : List ByteArray} (h : OwnTB w lo hi v ss) {ts : List ByteArray} (h' : OwnT4 w' B v' ts) (hw : v'.ownBlock = v.ownBlock ∨ v'.ownBlock = some w.heap.size) :
    OwnTB w' lo hi v' ts ∨ OwnTB w' w.heap.size w'.heap.size v' ts := by
  have key : ∀ lo', (∀ g, v'.ownBlock = some g → lo' ≤ g) → OwnT4 w' lo' v' ts := fun lo' hlo => by
    refine ⟨h'.1, h'.2.imp id ?_⟩
    rintro ⟨g, cap, cur, e1, e2, e3⟩
    exact ⟨g, cap, cur, e1, hlo g (by rw [e1]; rfl), e3⟩
  rcases hw with e | e
  · exact .inl ⟨key lo (fun g hg => (h.1.lt g (by rw [← e]; exact hg)).1), fun k hk => h.2 k (by rw [← e]; exact hk)⟩
  · exact .inr ⟨key w.heap.size (fun g hg => by rw [e] at hg; cases hg; exact Nat.le_refl _), fun k hk => (h'.lt k hk).2⟩
end Go.Proofs.Ytggdjiijcoklgaa
/- A TEXT PUT OUT: over lists. Written by mkque.py. -/
namespace Go.Proofs.Ytggdjiijcoklgaa
open Go.RowKit
set_option linter.unusedVariables false
set_option linter.unusedSimpArgs false

def queCode (s : Stn) (b : ByteArray) : Int := if 8000 < b.size then 2 else if s.right && bodyQ b then (if s.os.length = 3 then 9 else 0) else 1
def queStn (s : Stn) (b : ByteArray) : Stn := if queCode s b = 0 then { s with os := s.os ++ [b] } else newS 0 0
theorem que_bad {s : Stn} {b : ByteArray} (h : queCode s b ≠ 0) : queStn s b = newS 0 0 := by unfold queStn; rw [if_neg h]
theorem que_long {s : Stn} {b : ByteArray} (h3 : 8000 < b.size) : queCode s b = 2 ∧ queStn s b = newS 0 0 := by
  have e : queCode s b = 2 := by unfold queCode; rw [if_pos h3]
  exact ⟨e, que_bad (by rw [e]; decide)⟩
theorem que_form {s : Stn} {b : ByteArray} (h1 : (s.right && bodyQ b) = false) (h3 : ¬ 8000 < b.size) : queCode s b = 1 ∧ queStn s b = newS 0 0 := by
  have e : queCode s b = 1 := by unfold queCode; rw [if_neg h3, h1]; rfl
  exact ⟨e, que_bad (by rw [e]; decide)⟩
theorem que_full {s : Stn} {b : ByteArray} (h1 : (s.right && bodyQ b) = true) (h3 : ¬ 8000 < b.size) (h4 : s.os.length = 3) : queCode s b = 9 ∧ queStn s b = newS 0 0 := by
  have e : queCode s b = 9 := by unfold queCode; rw [if_neg h3, h1, if_pos rfl, if_pos h4]
  exact ⟨e, que_bad (by rw [e]; decide)⟩
theorem que_ok {s : Stn} {b : ByteArray} (h1 : (s.right && bodyQ b) = true) (h3 : ¬ 8000 < b.size) (h4 : ¬ s.os.length = 3) : queCode s b = 0 ∧ queStn s b = { s with os := s.os ++ [b] } := by
  have e : queCode s b = 0 := by unfold queCode; rw [if_neg h3, h1, if_pos rfl, if_neg h4]
  exact ⟨e, by unfold queStn; rw [if_pos e]⟩
theorem right_outs {s : Stn} (h : s.right = true) : s.os.length ≤ 3 := by
  unfold Stn.right at h
  simp only [Bool.and_eq_true] at h
  obtain ⟨_, _, _, _, _, _, _, _, _, _, hos⟩ := h
  unfold outB at hos
  rw [Bool.and_eq_true] at hos
  exact of_decide_eq_true hos.2
end Go.Proofs.Ytggdjiijcoklgaa
