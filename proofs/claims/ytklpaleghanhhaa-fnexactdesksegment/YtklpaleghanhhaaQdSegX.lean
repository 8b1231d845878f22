/- OWN ROWS of stations, bools and notes: built, held, read. -/
import Derived.Test.YtklpaleghanhhaaQdOwnM
import Derived.Test.YtklpaleghanhhaaQdStnH
import Derived.Laws.Tables
namespace Go.Proofs.Ytklpaleghanhhaa
open Go.RowKit
set_option linter.unusedVariables false
set_option linter.unusedSimpArgs false

theorem setCells_far (b : Nat) : ∀ (vs : List Value) (o : Nat) (w : World) (k : Nat), k ≠ b → (w.setCells b o vs).heap[k]? = w.heap[k]?
  | [], _, _, _, _ => rfl
  | v :: r, o, w, k, h => by
    rw [World.setCells, setCells_far b r (o + 1) _ k h]
    exact Below.heap_setCell _ _ _ _ (by simpa using h)
theorem setCells_row (b : Nat) (t : TypeId) : ∀ (vs : List Value) (o : Nat) (w : World) (cur : Array Value), w.heap[b]? = some (.cells cur t (0, 0)) → ∃ cur', (w.setCells b o vs).heap[b]? = some (.cells cur' t (0, 0)) ∧ cur'.size = cur.size
  | [], _, _, cur, h => ⟨cur, h, rfl⟩
  | v :: r, o, w, cur, h => by
    rw [World.setCells]
    obtain ⟨c, h1, h2⟩ := setCells_row b t r (o + 1) _ _ (blk_set h o v)
    exact ⟨c, h1, by rw [h2, Array.size_setIfInBounds]⟩
theorem setCells_size (b : Nat) : ∀ (vs : List Value) (o : Nat) (w : World), (w.setCells b o vs).heap.size = w.heap.size
  | [], _, _ => rfl
  | v :: r, o, w => by
    rw [World.setCells, setCells_size b r (o + 1)]
    simp [World.setCell]
theorem Below.setCells {B : Nat} {w : World} (b : Nat) (hB : B ≤ b) : ∀ (vs : List Value) (o : Nat) (w' : World), Below B w w' → Below B w (w'.setCells b o vs)
  | [], _, _, h => h
  | v :: r, o, w', h => by
    rw [World.setCells]
    exact Below.setCells b hB r (o + 1) _ (h.setCell hB v)
theorem Same.setCells {w : World} {lo hi g : Nat} (hg : g < lo ∨ hi ≤ g) (o : Nat) (cs : List Value) : Same w (w.setCells g o cs) lo hi := fun k h1 h2 => setCells_far g cs o w k (by omega)
theorem there_row {w : World} {r : Nat} {cur : Array Value} {t : TypeId} (h : w.heap[r]? = some (.cells cur t (0, 0))) (o n : Nat) (hn : o + n ≤ cur.size) : w.there r o n := fun j hj => by
  refine ⟨?_, frozenW h (o + j) w (Below.refl _ _)⟩
  rw [cell_of_row w r (o + j) cur t (0, 0) h, Array.getElem?_eq_getElem (by omega)]
  rfl
theorem mul_step {k j m : Nat} (h : k < j) : k * m + m ≤ j * m := by
  have := Nat.mul_le_mul_right m (show k + 1 ≤ j from h)
  rw [Nat.add_mul, Nat.one_mul] at this
  exact this
/-- one more thing stored into a row -/
theorem part_step {w : World} {r m n j : Nat} {t : TypeId} {cur : Array Value} (hg : w.heap[r]? = some (.cells cur t (0, 0))) (hs : cur.size = n * m) (hj : j < n) (c : List Value) (hc : c.length = m) :
    w.there r (j * m) m ∧ (∃ cur', (w.setCells r (j * m) c).heap[r]? = some (.cells cur' t (0, 0)) ∧ cur'.size = n * m) ∧ (w.setCells r (j * m) c).rangeAt r (j * m) c ∧
    ∀ k, k < j → ∀ d : List Value, d.length = m → w.rangeAt r (k * m) d → (w.setCells r (j * m) c).rangeAt r (k * m) d := by
  have h1 := mul_step (m := m) hj
  have ht : w.there r (j * m) m := there_row hg _ _ (by omega)
  obtain ⟨cur', h2, h3⟩ := setCells_row r t c (j * m) w cur hg
  refine ⟨ht, ⟨cur', h2, by omega⟩, World.rangeAt_setCells_same w r (j * m) c (by rw [hc]; exact ht), fun k hk d hd hr => ?_⟩
  have h4 := mul_step (m := m) hk
  exact World.rangeAt_setCells_apart hr r (j * m) c (.inr (.inl (by omega)))

/-- stations in a row, and where each one's lists lie -/
def StAt (w : World) (lo hi g : Nat) (ss : List Stn) (ls : List (Vs × Nat × Nat)) : Prop :=
  ls.length = ss.length ∧
  (∀ k (h : k < ss.length) (h' : k < ls.length), w.rangeAt g (k * 19) (stC ss[k] ls[k].1) ∧ lo ≤ ls[k].2.1 ∧ ls[k].2.2 ≤ hi ∧ OwnStnB w ls[k].2.1 ls[k].2.2 ls[k].1.a ls[k].1.b ls[k].1.c ls[k].1.d ss[k] ∧ (g < ls[k].2.1 ∨ ls[k].2.2 ≤ g)) ∧
  (∀ i j (h : i < ls.length) (h' : j < ls.length), i ≠ j → ls[i].2.2 ≤ ls[j].2.1 ∨ ls[j].2.2 ≤ ls[i].2.1)
/-- own stations -/
def OwnStS (w : World) (lo hi : Nat) (v : Value) (ss : List Stn) : Prop :=
  hi ≤ w.heap.size ∧ ((v = .slice none 0 0 ∧ ss = []) ∨ ∃ g c cur ls, v = .slice (some ⟨g, 0, none⟩) ss.length c ∧ lo ≤ g ∧ g < hi ∧ w.heap[g]? = some (.cells cur 135 (0, 0)) ∧ cur.size = c * 19 ∧ ss.length ≤ c ∧ StAt w lo hi g ss ls)
def OwnBS (w : World) (lo hi : Nat) (v : Value) (us : List Bool) : Prop :=
  hi ≤ w.heap.size ∧ ((v = .slice none 0 0 ∧ us = []) ∨ ∃ g c cur, v = .slice (some ⟨g, 0, none⟩) us.length c ∧ lo ≤ g ∧ g < hi ∧ w.heap[g]? = some (.cells cur 4 (0, 0)) ∧ cur.size = c * 1 ∧ us.length ≤ c ∧ ∀ k (h : k < us.length), w.rangeAt g (k * 1) [.bool us[k]])
def ntC (n : Nt) : List Value := [.int .i64 n.f, .int .i64 n.t, .string n.b]
def OwnNS (w : World) (lo hi : Nat) (v : Value) (ns : List Nt) : Prop :=
  hi ≤ w.heap.size ∧ ((v = .slice none 0 0 ∧ ns = []) ∨ ∃ g c cur, v = .slice (some ⟨g, 0, none⟩) ns.length c ∧ lo ≤ g ∧ g < hi ∧ w.heap[g]? = some (.cells cur 149 (0, 0)) ∧ cur.size = c * 3 ∧ ns.length ≤ c ∧ ∀ k (h : k < ns.length), w.rangeAt g (k * 3) (ntC ns[k]))
theorem range_same {w w' : World} {lo hi g o : Nat} {cs : List Value} (h : w.rangeAt g o cs) (h1 : lo ≤ g) (h2 : g < hi) (hs : Same w w' lo hi) : w'.rangeAt g o cs := fun j v hv => by
  have := h j v hv
  unfold World.cell? at this ⊢
  rw [hs g h1 h2]
  exact this
theorem StAt.same {w w' : World} {lo hi g : Nat} {ss : List Stn} {ls : List (Vs × Nat × Nat)} (h : StAt w lo hi g ss ls) (h1 : lo ≤ g) (h2 : g < hi) (hs : Same w w' lo hi) (hz : w.heap.size ≤ w'.heap.size) : StAt w' lo hi g ss ls := by
  obtain ⟨hl, hk, hd⟩ := h
  refine ⟨hl, fun k a b => ?_, hd⟩
  obtain ⟨r, c1, c2, o, d⟩ := hk k a b
  exact ⟨range_same r h1 h2 hs, c1, c2, o.same (fun q x y => hs q (by omega) (by omega)) hz, d⟩
theorem OwnStS.same {w w' : World} {lo hi : Nat} {v : Value} {ss : List Stn} (h : OwnStS w lo hi v ss) (hs : Same w w' lo hi) (hz : w.heap.size ≤ w'.heap.size) : OwnStS w' lo hi v ss := by
  obtain ⟨h0, h | ⟨g, c, cur, ls, e, h1, h2, h3, h4, h5, h6⟩⟩ := h
  · exact ⟨by omega, .inl h⟩
  · exact ⟨by omega, .inr ⟨g, c, cur, ls, e, h1, h2, (hs g h1 h2).trans h3, h4, h5, h6.same h1 h2 hs hz⟩⟩
theorem OwnBS.same {w w' : World} {lo hi : Nat} {v : Value} {us : List Bool} (h : OwnBS w lo hi v us) (hs : Same w w' lo hi) (hz : w.heap.size ≤ w'.heap.size) : OwnBS w' lo hi v us := by
  obtain ⟨h0, h | ⟨g, c, cur, e, h1, h2, h3, h4, h5, h6⟩⟩ := h
  · exact ⟨by omega, .inl h⟩
  · exact ⟨by omega, .inr ⟨g, c, cur, e, h1, h2, (hs g h1 h2).trans h3, h4, h5, fun k hk => range_same (h6 k hk) h1 h2 hs⟩⟩
theorem OwnNS.same {w w' : World} {lo hi : Nat} {v : Value} {ns : List Nt} (h : OwnNS w lo hi v ns) (hs : Same w w' lo hi) (hz : w.heap.size ≤ w'.heap.size) : OwnNS w' lo hi v ns := by
  obtain ⟨h0, h | ⟨g, c, cur, e, h1, h2, h3, h4, h5, h6⟩⟩ := h
  · exact ⟨by omega, .inl h⟩
  · exact ⟨by omega, .inr ⟨g, c, cur, e, h1, h2, (hs g h1 h2).trans h3, h4, h5, fun k hk => range_same (h6 k hk) h1 h2 hs⟩⟩
theorem OwnStS.row {w : World} {lo hi : Nat} {v : Value} {ss : List Stn} (h : OwnStS w lo hi v ss) : RowSt w v ss := by
  obtain ⟨h0, ⟨rfl, rfl⟩ | ⟨g, c, cur, ls, rfl, h1, h2, h3, h4, h5, hl, hk, hd⟩⟩ := h
  · exact ⟨none, 0, rfl, fun k hk => absurd hk (by simp)⟩
  · refine ⟨some ⟨g, 0, none⟩, c, rfl, fun k hk' => ?_⟩
    obtain ⟨r, c1, c2, o, d⟩ := hk k hk' (by omega)
    have o2 := o.stn.rows
    exact ⟨g, ls[k].1, rfl, by omega, r, o2.1, o2.2.1, o2.2.2.1, o2.2.2.2⟩
theorem OwnBS.row {w : World} {lo hi : Nat} {v : Value} {us : List Bool} (h : OwnBS w lo hi v us) : RowBo w v us := by
  obtain ⟨h0, ⟨rfl, rfl⟩ | ⟨g, c, cur, rfl, h1, h2, h3, h4, h5, h6⟩⟩ := h
  · exact ⟨none, 0, rfl, fun k hk => absurd hk (by simp)⟩
  · refine ⟨some ⟨g, 0, none⟩, c, rfl, fun k hk => ⟨g, rfl, by omega, ?_⟩⟩
    simpa using h6 k hk 0 _ rfl
theorem OwnNS.row {w : World} {lo hi : Nat} {v : Value} {ns : List Nt} (h : OwnNS w lo hi v ns) : RowN w v ns := by
  obtain ⟨h0, ⟨rfl, rfl⟩ | ⟨g, c, cur, rfl, h1, h2, h3, h4, h5, h6⟩⟩ := h
  · exact ⟨none, 0, rfl, fun k hk => absurd hk (by simp)⟩
  · exact ⟨some ⟨g, 0, none⟩, c, rfl, fun k hk => ⟨g, rfl, by omega, by simpa using h6 k hk 0 _ rfl, h6 k hk 1 _ rfl, h6 k hk 2 _ rfl⟩⟩
/-- the first stations copied -/
def PartSt (w : World) (r n : Nat) (ss : List Stn) (j : Nat) : Prop :=
  ∃ cur ls, w.heap[r]? = some (.cells cur 135 (0, 0)) ∧ cur.size = n * 19 ∧ StAt w (r + 1) w.heap.size r (ss.take j) ls
theorem take_at {α : Type} {ss : List α} {j k : Nat} (h : k < (ss.take j).length) : (ss.take j)[k] = ss[k]'(by rw [List.length_take] at h; omega) := List.getElem_take
theorem PartSt.start {w : World} {r n : Nat} {ss : List Stn} {cur : Array Value} (h : w.heap[r]? = some (.cells cur 135 (0, 0))) (hs : cur.size = n * 19) : PartSt w r n ss 0 :=
  ⟨cur, [], h, hs, by simp, fun k h => absurd h (by simp), fun i j h => absurd h (by simp)⟩
theorem PartSt.there {w w2 : World} {r n j : Nat} {ss : List Stn} (h : PartSt w r n ss j) (hj : j < n) (hb : Below w.heap.size w w2) : w2.there r (j * 19) 19 := by
  obtain ⟨cur, ls, hg, hs, _⟩ := h
  have hr : r < w.heap.size := (Array.getElem?_eq_some_iff.1 hg).1
  have := mul_step (m := 19) hj
  exact there_row ((hb.block r hr).trans hg) _ _ (by omega)
theorem PartSt.step {w w2 : World} {r n j : Nat} {ss : List Stn} (h : PartSt w r n ss j) (hn : n = ss.length) (hj : j < ss.length) (hb : Below w.heap.size w w2) (u : Vs) (ho : OwnStn w2 w.heap.size u.a u.b u.c u.d ss[j]) :
    PartSt (w2.setCells r (j * 19) (stC ss[j] u)) r n ss (j + 1) := by
  obtain ⟨cur, ls, hg, hs, hl, hk, hd⟩ := h
  have hr : r < w.heap.size := (Array.getElem?_eq_some_iff.1 hg).1
  have hz := hb.size
  have hlj : ls.length = j := by rw [hl, List.length_take]; omega
  obtain ⟨_, ⟨cur', g1, g2⟩, g3, g4⟩ := part_step ((hb.block r hr).trans hg) hs (by omega : j < n) (stC ss[j] u) (stC_len _ _)
  refine ⟨cur', ls ++ [(u, w.heap.size, w2.heap.size)], g1, g2, ?_, ?_, ?_⟩
  · rw [List.length_append, List.length_take, hlj]; simp; omega
  · intro k a b
    rw [take_at a, setCells_size]
    rw [List.length_take] at a
    by_cases hkj : k < j
    · rw [List.getElem_append_left (by omega)]
      have a' : k < (ss.take j).length := by rw [List.length_take]; omega
      obtain ⟨q1, q2, q3, q4, q5⟩ := hk k a' (by omega)
      rw [take_at a'] at q1 q4
      refine ⟨g4 k hkj _ (stC_len _ _) (range_below q1 hr hb), q2, by omega, (q4.below hb).same (Same.setCells (.inl (by omega)) _ _) (by rw [setCells_size]; exact Nat.le_refl _), .inl (by omega)⟩
    · obtain rfl : k = j := by omega
      subst hlj
      rw [List.getElem_append_right (by omega)]
      simp only [Nat.sub_self, List.getElem_cons_zero]
      exact ⟨g3, by omega, Nat.le_refl _, ho.top.same (Same.setCells (.inl (by omega)) _ _) (by rw [setCells_size]; exact Nat.le_refl _), .inl (by omega)⟩
  · intro i k a b hik
    rw [List.length_append, List.length_singleton] at a b
    have key : ∀ m (hm : m < ls.length), ls[m].2.2 ≤ w.heap.size := fun m hm => (hk m (by omega) hm).2.2.1
    by_cases h1 : i < ls.length
    · by_cases h2 : k < ls.length
      · rw [List.getElem_append_left h1, List.getElem_append_left h2]
        exact hd i k h1 h2 hik
      · obtain rfl : k = ls.length := by omega
        rw [List.getElem_append_left h1, List.getElem_append_right (by omega)]
        simp only [Nat.sub_self, List.getElem_cons_zero]
        exact .inl (key i h1)
    · obtain rfl : i = ls.length := by omega
      have h2 : k < ls.length := by omega
      rw [List.getElem_append_left h2, List.getElem_append_right (by omega)]
      simp only [Nat.sub_self, List.getElem_cons_zero]
      exact .inr (key k h2)
theorem PartSt.all {w : World} {r n : Nat} {ss : List Stn} (h : PartSt w r n ss n) (hn : n = ss.length) (hm : n ≤ maxLen) : OwnStS w r w.heap.size (.slice (some ⟨r, 0, none⟩) n n) ss := by
  subst hn
  obtain ⟨cur, ls, hg, hs, h6⟩ := h
  rw [List.take_length] at h6
  obtain ⟨hl, hk, hd⟩ := h6
  exact ⟨Nat.le_refl _, .inr ⟨r, ss.length, cur, ls, rfl, Nat.le_refl _, (Array.getElem?_eq_some_iff.1 hg).1, hg, hs, Nat.le_refl _, hl, fun k a b => ⟨(hk k a b).1, by have := (hk k a b).2.1; omega, (hk k a b).2.2⟩, hd⟩⟩
end Go.Proofs.Ytklpaleghanhhaa
