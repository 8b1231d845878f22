/- ROWS of what others told all, and of texts: to be read, own ones, ones that came in; the law's own questions of them. -/
import Derived.Test.YtklpaleghanhhaaProg
import Derived.Test.YtklpaleghanhhaaQdKeep
import Derived.Test.YtklpaleghanhhaaQdBox
import Derived.Laws.OwnMore
import Derived.Deep.SlicePairs
import Derived.Deep.Strs
namespace Go.Proofs.Ytklpaleghanhhaa
open Go.RowKit
set_option linter.unusedVariables false
set_option linter.unusedSimpArgs false

def flatP (ps : List (Int × Value)) : List Value := ps.flatMap fun p => [.int .i64 p.1, p.2]
theorem flatP_cons (p : Int × Value) (ps : List (Int × Value)) : flatP (p :: ps) = .int .i64 p.1 :: p.2 :: flatP ps := rfl
theorem flatP_len : ∀ (ps : List (Int × Value)), (flatP ps).length = ps.length * 2
  | [] => rfl
  | p :: ps => by rw [flatP_cons, List.length_cons, List.length_cons, flatP_len ps, List.length_cons]; omega
theorem flatP_even : ∀ (ps : List (Int × Value)) (k : Nat) (h : k < ps.length), (flatP ps)[k * 2]? = some (.int .i64 ps[k].1)
  | p :: ps, 0, _ => rfl
  | p :: ps, k + 1, h => by
    rw [flatP_cons, show (k + 1) * 2 = k * 2 + 1 + 1 by omega, List.getElem?_cons_succ, List.getElem?_cons_succ, flatP_even ps k (by simpa using h)]
    rfl
theorem flatP_odd : ∀ (ps : List (Int × Value)) (k : Nat) (h : k < ps.length), (flatP ps)[k * 2 + 1]? = some ps[k].2
  | p :: ps, 0, _ => rfl
  | p :: ps, k + 1, h => by
    rw [flatP_cons, show (k + 1) * 2 + 1 = k * 2 + 1 + 1 + 1 by omega, List.getElem?_cons_succ, List.getElem?_cons_succ, flatP_odd ps k (by simpa using h)]
    rfl
theorem flatP_set : ∀ (ps : List (Int × Value)) (k : Nat) (a : Int) (u : Value), k < ps.length → ((flatP ps).set (k * 2) (.int .i64 a)).set (k * 2 + 1) u = flatP (ps.set k (a, u))
  | p :: ps, 0, a, u, _ => rfl
  | p :: ps, k + 1, a, u, h => by
    rw [flatP_cons, show (k + 1) * 2 + 1 = k * 2 + 1 + 1 + 1 by omega, show (k + 1) * 2 = k * 2 + 1 + 1 by omega, List.set_cons_succ, List.set_cons_succ, List.set_cons_succ, List.set_cons_succ, flatP_set ps k a u (by simpa using h), List.set_cons_succ, flatP_cons]
theorem flatP_set1 : ∀ (ps : List (Int × Value)) (k : Nat) (a : Int) (h : k < ps.length), (flatP ps).set (k * 2) (.int .i64 a) = flatP (ps.set k (a, ps[k].2))
  | p :: ps, 0, a, _ => rfl
  | p :: ps, k + 1, a, h => by
    rw [flatP_cons, show (k + 1) * 2 = k * 2 + 1 + 1 by omega, List.set_cons_succ, List.set_cons_succ, flatP_set1 ps k a (by simpa using h), List.set_cons_succ, flatP_cons]
    rfl
theorem flatP_append (ps qs : List (Int × Value)) : flatP (ps ++ qs) = flatP ps ++ flatP qs := by simp [flatP]
theorem flatP_zero : ∀ n : Nat, flatP (List.replicate n (0, .slice none 0 0)) = (madeCells (Value.agg #[.int .i64 0, .slice none 0 0]).cells (n * 2)).toList := by
  intro n
  apply List.ext_getElem?
  intro j
  rw [show (Value.agg #[.int .i64 0, .slice none 0 0]).cells = #[.int .i64 0, .slice none 0 0] from rfl]
  by_cases hj : j < n * 2
  · rcases Nat.mod_two_eq_zero_or_one j with h | h
    · have e : j = (j / 2) * 2 := by omega
      rw [e, flatP_even _ _ (by simp; omega)]
      simp [madeCells, show j / 2 * 2 < n * 2 by omega]
    · have e : j = (j / 2) * 2 + 1 := by omega
      rw [e, flatP_odd _ _ (by simp; omega)]
      have e3 : (j / 2 * 2 + 1) % 2 = 1 := by omega
      simp [madeCells, show j / 2 * 2 + 1 < n * 2 by omega, e3]
  · rw [List.getElem?_eq_none (by rw [flatP_len]; simp; omega), List.getElem?_eq_none (by simp [madeCells]; omega)]

/-- what others told all, to be read -/
def RowG (w : World) (v : Value) (gs : List (Int × List Int)) : Prop :=
  ∃ (p : Option Addr) (c : Nat), v = .slice p gs.length c ∧ ∀ k (h : k < gs.length), ∃ g u, p = some ⟨g, 0, none⟩ ∧ g < w.heap.size ∧ w.cell? ⟨g, k * 2, none⟩ = some (.int .i64 gs[k].1) ∧ w.cell? ⟨g, k * 2 + 1, none⟩ = some u ∧ RowI w u gs[k].2
theorem RowG.below {w w' : World} {v : Value} {gs : List (Int × List Int)} (h : RowG w v gs) (hb : Below w.heap.size w w') : RowG w' v gs := by
  obtain ⟨p, c, e, h⟩ := h
  refine ⟨p, c, e, fun k hk => ?_⟩
  obtain ⟨g, u, e1, h1, h2, h3, h4⟩ := h k hk
  exact ⟨g, u, e1, Nat.lt_of_lt_of_le h1 hb.size, (hb.cell (p := ⟨g, k * 2, none⟩) h1).trans h2, (hb.cell (p := ⟨g, k * 2 + 1, none⟩) h1).trans h3, h4.below hb⟩
/-- texts, to be read -/
def RowS (w : World) (v : Value) (ss : List ByteArray) : Prop :=
  ∃ (p : Option Addr) (c : Nat), v = .slice p ss.length c ∧ ∀ k (h : k < ss.length), ∃ g, p = some ⟨g, 0, none⟩ ∧ g < w.heap.size ∧ w.cell? ⟨g, k, none⟩ = some (.string ss[k])
theorem RowS.below {w w' : World} {v : Value} {ss : List ByteArray} (h : RowS w v ss) (hb : Below w.heap.size w w') : RowS w' v ss := by
  obtain ⟨p, c, e, h⟩ := h
  refine ⟨p, c, e, fun k hk => ?_⟩
  obtain ⟨g, e1, h1, h2⟩ := h k hk
  exact ⟨g, e1, Nat.lt_of_lt_of_le h1 hb.size, (hb.cell (p := ⟨g, k, none⟩) h1).trans h2⟩
/-- the like, that came in -/
def InG (w : World) (a : Option Addr) (gs : List (Int × List Int)) : Prop :=
  gs.length ≤ 9223372036854775807 ∧ ∀ k (h : k < gs.length), ∃ g o u c, a = some ⟨g, o, none⟩ ∧ g < w.heap.size ∧ w.cell? ⟨g, o + k * 2, none⟩ = some (.int .i64 gs[k].1) ∧ w.cell? ⟨g, o + k * 2 + 1, none⟩ = some (.slice u gs[k].2.length c) ∧ InI w u gs[k].2
theorem InG.below {w w' : World} {a : Option Addr} {gs : List (Int × List Int)} (h : InG w a gs) (hb : Below w.heap.size w w') : InG w' a gs := by
  refine ⟨h.1, fun k hk => ?_⟩
  obtain ⟨g, o, u, c, e, h1, h2, h3, h4⟩ := h.2 k hk
  exact ⟨g, o, u, c, e, Nat.lt_of_lt_of_le h1 hb.size, (hb.cell (p := ⟨g, o + k * 2, none⟩) h1).trans h2, (hb.cell (p := ⟨g, o + k * 2 + 1, none⟩) h1).trans h3, h4.below hb⟩
def InS (w : World) (a : Option Addr) (ss : List ByteArray) : Prop :=
  ss.length ≤ 9223372036854775807 ∧ (∀ s ∈ ss, s.size ≤ maxLen) ∧ ∀ k (h : k < ss.length), ∃ g o, a = some ⟨g, o, none⟩ ∧ g < w.heap.size ∧ w.cell? ⟨g, o + k, none⟩ = some (.string ss[k])
theorem InS.below {w w' : World} {a : Option Addr} {ss : List ByteArray} (h : InS w a ss) (hb : Below w.heap.size w w') : InS w' a ss := by
  refine ⟨h.1, h.2.1, fun k hk => ?_⟩
  obtain ⟨g, o, e, h1, h2⟩ := h.2.2 k hk
  exact ⟨g, o, e, Nat.lt_of_lt_of_le h1 hb.size, (hb.cell (p := ⟨g, o + k, none⟩) h1).trans h2⟩
/-- own ones: a row of pairs, and each pair's own row, none of them another one's -/
def OwnG (w : World) (base : Nat) (v : Value) (gs : List (Int × List Int)) : Prop :=
  ∃ ps : List (Int × Value), ps.length = gs.length ∧ w.ownsRow base 175 2 v gs.length (flatP ps) ∧
    (∀ k (h : k < gs.length) (h' : k < ps.length), ps[k].1 = gs[k].1 ∧ OwnI w base ps[k].2 gs[k].2) ∧
    (∀ i j a (hi : i < ps.length) (hj : j < ps.length), ps[i].2.ownBlock = some a → ps[j].2.ownBlock = some a → i = j) ∧
    (∀ i a (hi : i < ps.length), ps[i].2.ownBlock = some a → v.ownBlock ≠ some a)
theorem OwnG.shape {w : World} {base : Nat} {v : Value} {gs : List (Int × List Int)} (h : OwnG w base v gs) : ∃ a cap, v = .slice a gs.length cap := by
  obtain ⟨ps, hl, ⟨_, ⟨rfl, h0⟩ | ⟨g, cap, cur, rfl, _⟩⟩, _⟩ := h
  · rw [h0]; exact ⟨_, _, rfl⟩
  · exact ⟨_, _, rfl⟩
theorem OwnG.row {w : World} {base : Nat} {v : Value} {gs : List (Int × List Int)} (h : OwnG w base v gs) : RowG w v gs := by
  obtain ⟨p, c, rfl⟩ := h.shape
  obtain ⟨ps, hl, hr, hk, _⟩ := h
  refine ⟨p, c, rfl, fun k hk' => ?_⟩
  obtain ⟨h1, h2⟩ := hk k hk' (by omega)
  rcases hr.2 with ⟨e, e0⟩ | ⟨g, cap, cur, e, hb, hg, _⟩
  · omega
  · cases e
    refine ⟨g, ps[k].2, rfl, (Array.getElem?_eq_some_iff.1 hg).1, ?_, ?_, h2.row⟩
    · rw [hr.cellAt (k * 2) (by omega), flatP_even ps k (by omega), h1]
    · rw [hr.cellAt (k * 2 + 1) (by omega), flatP_odd ps k (by omega)]
def OwnT4 (w : World) (base : Nat) (v : Value) (ss : List ByteArray) : Prop := w.ownsRow base 9 1 v ss.length (ss.map Value.string)
theorem OwnT4.shape {w : World} {base : Nat} {v : Value} {ss : List ByteArray} (h : OwnT4 w base v ss) : ∃ a cap, v = .slice a ss.length cap := by
  obtain ⟨_, ⟨rfl, h0⟩ | ⟨g, cap, cur, rfl, _⟩⟩ := h
  · rw [h0]; exact ⟨_, _, rfl⟩
  · exact ⟨_, _, rfl⟩
theorem OwnT4.row {w : World} {base : Nat} {v : Value} {ss : List ByteArray} (h : OwnT4 w base v ss) : RowS w v ss := by
  obtain ⟨p, c, rfl⟩ := h.shape
  refine ⟨p, c, rfl, fun k hk => ?_⟩
  rcases h.2 with ⟨e, e0⟩ | ⟨g, cap, cur, e, hb, hg, _⟩
  · omega
  · cases e
    refine ⟨g, rfl, (Array.getElem?_eq_some_iff.1 hg).1, ?_⟩
    rw [World.ownsRow.cellAt h k (by omega), List.getElem?_map, List.getElem?_eq_getElem hk]
    rfl
end Go.Proofs.Ytklpaleghanhhaa
/- PLAIN: the number that stands in a text at a place; nothing of the program. -/
namespace Go.Proofs.Ytklpaleghanhhaa
open Go.RowKit

def unfoldZ (u : Nat) : Int := if u % 2 = 0 then ((u / 2 : Nat) : Int) else -((u / 2 : Nat) : Int) - 1
theorem unfold_odd {u x : Nat} (h : (u + x) % 2 = 1) : unfoldZ (u + x) = -(((u : Int) + x) / 2) - 1 := by unfold unfoldZ; rw [if_neg (by omega)]; omega
theorem unfold_even {u x : Nat} (h : ¬ (u + x) % 2 = 1) : unfoldZ (u + x) = ((u : Int) + x) / 2 := by unfold unfoldZ; rw [if_pos (by omega)]; omega
def byteAt (s : ByteArray) (i : Nat) : Nat := (s.data.toList.getD i 0).toNat
theorem byteAt_eq (s : ByteArray) (i : Nat) (h : i < s.size) : byteAt s i = s[i].toNat := by
  unfold byteAt
  rw [show s.data.toList.getD i 0 = s[i] from by simp [h]; rfl]
/-- what is told of k bytes that were read, the number so far, at place p: the number, the place behind it, the code -/
def getG (s : ByteArray) : Nat → Nat → Nat → Nat → Int × Int × Int
  | 0, _, _, _ => (0, 0, 3)
  | m + 1, p, k, u => if s.size ≤ p then (0, 0, 4) else if k = 9 ∧ 1 < byteAt s p then (0, 0, 3)
    else if byteAt s p < 128 then (if byteAt s p = 0 ∧ 0 < k then (0, 0, 3) else (unfoldZ (u + byteAt s p * 2 ^ (7 * k)), p + 1, 0))
    else getG s m (p + 1) (k + 1) (u + byteAt s p % 128 * 2 ^ (7 * k))
def getR (s : ByteArray) (a : Int) : Int × Int × Int := if 8000 < s.size then (0, 0, 2) else if a < 0 then (0, 0, 1) else getG s 10 a.toNat 0 0
theorem g_short {s : ByteArray} {m p k u : Nat} (h : s.size ≤ p) : getG s (m + 1) p k u = (0, 0, 4) := by
  rw [getG, if_pos h]
theorem g_nine {s : ByteArray} {m p k u : Nat} (h : p < s.size) (hk : k = 9) (hc : 1 < s[p].toNat) : getG s (m + 1) p k u = (0, 0, 3) := by
  rw [getG, if_neg (by omega), if_pos ⟨hk, by rw [byteAt_eq s p h]; exact hc⟩]
theorem g_zero {s : ByteArray} {m p k u : Nat} (h : p < s.size) (hk : 0 < k) (hc : s[p].toNat = 0) : getG s (m + 1) p k u = (0, 0, 3) := by
  rw [getG, if_neg (by omega), if_neg (by rw [byteAt_eq s p h]; omega), if_pos (by rw [byteAt_eq s p h]; omega), if_pos (by rw [byteAt_eq s p h]; omega)]
theorem g_last {s : ByteArray} {m p k u : Nat} (h : p < s.size) (h9 : ¬ (k = 9 ∧ 1 < s[p].toNat)) (hc : s[p].toNat < 128) (h0 : ¬ (s[p].toNat = 0 ∧ 0 < k)) : getG s (m + 1) p k u = (unfoldZ (u + s[p].toNat * 2 ^ (7 * k)), (p : Int) + 1, 0) := by
  rw [getG, if_neg (by omega), byteAt_eq s p h, if_neg h9, if_pos hc, if_neg h0]
theorem g_more {s : ByteArray} {m p k u : Nat} (h : p < s.size) (h9 : ¬ (k = 9 ∧ 1 < s[p].toNat)) (hc : 128 ≤ s[p].toNat) : getG s (m + 1) p k u = getG s m (p + 1) (k + 1) (u + s[p].toNat % 128 * 2 ^ (7 * k)) := by
  rw [getG, if_neg (by omega), byteAt_eq s p h, if_neg h9, if_neg (by omega)]
theorem last_eq {s : ByteArray} {m p k u : Nat} (h : p < s.size) (h9 : ¬ (k = 9 ∧ 1 < s[p].toNat)) (hc : s[p].toNat < 128) :
    getG s (m + 1) p k u = if s[p].toNat = 0 ∧ 0 < k then (0, 0, 3) else (unfoldZ (u + s[p].toNat % 128 * 2 ^ (7 * k)), (p : Int) + 1, 0) := by
  by_cases h0 : s[p].toNat = 0 ∧ 0 < k
  · rw [if_pos h0, g_zero h h0.2 h0.1]
  · rw [if_neg h0, g_last h h9 hc h0, Nat.mod_eq_of_lt hc]
theorem getG_bad (s : ByteArray) (m : Nat) : ∀ p k u, (getG s m p k u).2.2 ≠ 0 → (getG s m p k u).1 = 0 ∧ (getG s m p k u).2.1 = 0 := by
  induction m with
  | zero => intro p k u _; exact ⟨rfl, rfl⟩
  | succ m ih =>
    intro p k u h
    rw [getG] at h ⊢
    split
    · exact ⟨rfl, rfl⟩
    · rename_i h1
      rw [if_neg h1] at h
      split
      · exact ⟨rfl, rfl⟩
      · rename_i h2
        rw [if_neg h2] at h
        split
        · rename_i h3
          rw [if_pos h3] at h
          split
          · exact ⟨rfl, rfl⟩
          · rename_i h4
            rw [if_neg h4] at h
            exact absurd rfl h
        · rename_i h3
          rw [if_neg h3] at h
          exact ih _ _ _ h
theorem getR_bad (s : ByteArray) (a : Int) (h : (getR s a).2.2 ≠ 0) : getR s a = (0, 0, (getR s a).2.2) := by
  have key : (getR s a).1 = 0 ∧ (getR s a).2.1 = 0 := by
    unfold getR at h ⊢
    split
    · exact ⟨rfl, rfl⟩
    · rename_i h1
      rw [if_neg h1] at h
      split
      · exact ⟨rfl, rfl⟩
      · rename_i h2
        rw [if_neg h2] at h
        exact getG_bad s 10 _ _ _ h
  exact Prod.ext key.1 (Prod.ext key.2 rfl)
theorem getG_at (s : ByteArray) (m : Nat) : ∀ p k u, (getG s m p k u).2.2 = 0 → 1 ≤ (getG s m p k u).2.1 ∧ (getG s m p k u).2.1 ≤ s.size := by
  induction m with
  | zero => intro p k u h; exact absurd h (by rw [getG]; decide)
  | succ m ih =>
    intro p k u h
    by_cases h1 : s.size ≤ p
    · rw [getG, if_pos h1] at h; exact absurd h (by decide)
    by_cases h2 : k = 9 ∧ 1 < byteAt s p
    · rw [getG, if_neg h1, if_pos h2] at h; exact absurd h (by decide)
    by_cases h3 : byteAt s p < 128
    · by_cases h4 : byteAt s p = 0 ∧ 0 < k
      · rw [getG, if_neg h1, if_neg h2, if_pos h3, if_pos h4] at h; exact absurd h (by decide)
      · rw [getG, if_neg h1, if_neg h2, if_pos h3, if_neg h4]
        show 1 ≤ (p : Int) + 1 ∧ (p : Int) + 1 ≤ s.size
        omega
    · rw [getG, if_neg h1, if_neg h2, if_neg h3] at h ⊢
      exact ih _ _ _ h
theorem getR_at (s : ByteArray) (a : Int) (h : (getR s a).2.2 = 0) : 1 ≤ (getR s a).2.1 ∧ (getR s a).2.1 ≤ s.size ∧ s.size ≤ 8000 := by
  by_cases h1 : 8000 < s.size
  · unfold getR at h; rw [if_pos h1] at h; exact absurd h (by decide)
  by_cases h2 : a < 0
  · unfold getR at h; rw [if_neg h1, if_pos h2] at h; exact absurd h (by decide)
  · unfold getR at h ⊢
    rw [if_neg h1, if_neg h2] at h ⊢
    have := getG_at s 10 _ _ _ h
    omega
/-- what is told of a text at a place -/
def getT (s : ByteArray) (a : Int) : ByteArray × Int × Int :=
  if (getR s a).2.2 ≠ 0 then (ByteArray.empty, 0, (getR s a).2.2)
  else if (getR s a).1 < 0 ∨ 8000 < (getR s a).1 then (ByteArray.empty, 0, 3)
  else if (s.size : Int) < (getR s a).2.1 + (getR s a).1 then (ByteArray.empty, 0, 4)
  else (s.extract (getR s a).2.1.toNat ((getR s a).2.1 + (getR s a).1).toNat, (getR s a).2.1 + (getR s a).1, 0)
theorem pow_le {k : Nat} (h : k ≤ 8) : 2 ^ (7 * k) * 128 ≤ 9223372036854775808 := by
  have : 2 ^ (7 * k) ≤ 2 ^ 56 := Nat.pow_le_pow_right (by decide) (by omega)
  omega
theorem next_lt {u c k : Nat} (hu : u < 2 ^ (7 * k)) : u + c % 128 * 2 ^ (7 * k) < 2 ^ (7 * (k + 1)) := by
  have e : 2 ^ (7 * (k + 1)) = 128 * 2 ^ (7 * k) := by rw [show 7 * (k + 1) = 7 * k + 7 by omega, Nat.pow_add]; omega
  rw [e]
  have h1 : c % 128 ≤ 127 := by omega
  have h2 : c % 128 * 2 ^ (7 * k) ≤ 127 * 2 ^ (7 * k) := Nat.mul_le_mul_right _ h1
  omega
theorem or_add {u x i : Nat} (hu : u < 2 ^ i) : u ||| x * 2 ^ i = u + x * 2 ^ i := by
  have h := Nat.shiftLeft_add_eq_or_of_lt hu x
  rw [Nat.shiftLeft_eq] at h
  rw [Nat.or_comm, ← h, Nat.add_comm]
/-- seven bits more do not leave 64 bits -/
theorem in64 {u c k : Nat} (hk : k ≤ 9) (h9 : ¬ (k = 9 ∧ 1 < c)) (hu : u < 2 ^ (7 * k)) : c % 128 * 2 ^ (7 * k) < 18446744073709551616 ∧ u + c % 128 * 2 ^ (7 * k) < 18446744073709551616 := by
  by_cases e : k = 9
  · subst e
    have : c ≤ 1 := by omega
    have : c % 128 ≤ 1 := by omega
    have e2 : 2 ^ (7 * 9) = 9223372036854775808 := by decide
    rw [e2] at hu ⊢
    omega
  · have := pow_le (show k ≤ 8 by omega)
    have h1 : c % 128 ≤ 127 := by omega
    have h2 : c % 128 * 2 ^ (7 * k) ≤ 127 * 2 ^ (7 * k) := Nat.mul_le_mul_right _ h1
    omega
theorem or_nat {u c k : Nat} (hk : k ≤ 9) (h9 : ¬ (k = 9 ∧ 1 < c)) (hu : u < 2 ^ (7 * k)) : bits .or .u64 (u : Int) ((c % 128 * 2 ^ (7 * k) : Nat) : Int) = ((u + c % 128 * 2 ^ (7 * k) : Nat) : Int) := by
  obtain ⟨h1, h2⟩ := in64 hk h9 hu
  rw [u64_or_nat u _ (by omega) h1, or_add hu]
theorem or_val {u c k : Nat} (hk : k ≤ 9) (h9 : ¬ (k = 9 ∧ 1 < c)) (hu : u < 2 ^ (7 * k)) : bits .or .u64 (u : Int) (IntKind.u64.wrap ((c : Int) % 128 * 2 ^ (7 * k))) = ((u + c % 128 * 2 ^ (7 * k) : Nat) : Int) := by
  obtain ⟨h1, h2⟩ := in64 hk h9 hu
  have e : IntKind.u64.wrap ((c : Int) % 128 * 2 ^ (7 * k)) = ((c % 128 * 2 ^ (7 * k) : Nat) : Int) := by
    rw [IntKind.wrap_u64]
    have e2 : ((c % 128 * 2 ^ (7 * k) : Nat) : Int) = (c : Int) % 128 * 2 ^ (7 * k) := by rw [Int.natCast_mul, Int.natCast_emod, Int.natCast_pow]; rfl
    rw [← e2]
    exact Int.emod_eq_of_lt (Int.natCast_nonneg _) (Int.ofNat_lt.2 h1)
  rw [e]
  exact or_nat hk h9 hu
theorem or_nine {u c : Nat} (hc : ¬ 1 < c) (hu : u < 2 ^ (7 * 9)) : bits .or .u64 (u : Int) ((c : Int) % 128 * 9223372036854775808) = ((u + c % 128 * 2 ^ (7 * 9) : Nat) : Int) := by
  have e : (c : Int) % 128 * 9223372036854775808 = ((c % 128 * 2 ^ (7 * 9) : Nat) : Int) := by
    rw [show 2 ^ (7 * 9) = 9223372036854775808 by decide]; omega
  rw [e]
  exact or_nat (Nat.le_refl 9) (by omega) hu
theorem or_first (c : Nat) : bits .or .u64 0 ((c : Int) % 128) = ((0 + c % 128 * 2 ^ (7 * 0) : Nat) : Int) := by
  have := or_nat (u := 0) (c := c) (k := 0) (by omega) (by omega) (by decide)
  rw [show (c : Int) % 128 = ((c % 128 * 2 ^ (7 * 0) : Nat) : Int) by simp]
  exact this
end Go.Proofs.Ytklpaleghanhhaa
/- BITS AS BYTES over lists: packed eight to a byte, and taken back. -/
namespace Go.Proofs.Ytklpaleghanhhaa
open Go.RowKit
set_option linter.unusedVariables false
set_option linter.unusedSimpArgs false

def bitB (n : Int) : Bool := decide (0 ≤ n) && decide (n ≤ 1)
theorem bitB_iff (n : Int) : bitB n = true ↔ n = 0 ∨ n = 1 := by
  unfold bitB
  rw [Bool.and_eq_true, decide_eq_true_eq, decide_eq_true_eq]
  omega
/-- the k-th of a list, as a bit -/
def nthB (zs : List Int) (k : Nat) : Nat := if zs.getD k 0 = 1 then 1 else 0
theorem nthB_le (zs : List Int) (k : Nat) : nthB zs k ≤ 1 := by unfold nthB; split <;> omega
def byteOf (zs : List Int) (j : Nat) : Nat :=
  nthB zs (8 * j) + 2 * nthB zs (8 * j + 1) + 4 * nthB zs (8 * j + 2) + 8 * nthB zs (8 * j + 3) + 16 * nthB zs (8 * j + 4) + 32 * nthB zs (8 * j + 5) + 64 * nthB zs (8 * j + 6) + 128 * nthB zs (8 * j + 7)
theorem byteOf_lt (zs : List Int) (j : Nat) : byteOf zs j < 256 := by
  unfold byteOf
  have h0 := nthB_le zs (8 * j); have h1 := nthB_le zs (8 * j + 1); have h2 := nthB_le zs (8 * j + 2); have h3 := nthB_le zs (8 * j + 3)
  have h4 := nthB_le zs (8 * j + 4); have h5 := nthB_le zs (8 * j + 5); have h6 := nthB_le zs (8 * j + 6); have h7 := nthB_le zs (8 * j + 7)
  omega
def packL (zs : List Int) : List UInt8 := (List.range ((zs.length + 7) / 8)).map fun j => UInt8.ofNat (byteOf zs j)
def packB (zs : List Int) : ByteArray := ⟨(packL zs).toArray⟩
theorem packL_length (zs : List Int) : (packL zs).length = (zs.length + 7) / 8 := by simp [packL]
/-- the row in the making: the first n bits are in -/
def packAt (zs : List Int) (n : Nat) : List Int := (List.range ((zs.length + 7) / 8)).map fun j => (byteOf (zs.take n) j : Int)
theorem packAt_length (zs : List Int) (n : Nat) : (packAt zs n).length = (zs.length + 7) / 8 := by simp [packAt]
theorem packAt_get (zs : List Int) (n j : Nat) (h : j < (packAt zs n).length) : (packAt zs n)[j] = (byteOf (zs.take n) j : Int) := by simp [packAt]
theorem nthB_nil (k : Nat) : nthB [] k = 0 := by simp [nthB]
theorem packAt_zero (zs : List Int) : packAt zs 0 = List.replicate ((zs.length + 7) / 8) 0 := by
  apply List.ext_getElem
  · simp [packAt]
  · intro j h1 h2
    rw [packAt_get, List.take_zero, List.getElem_replicate]
    simp [byteOf, nthB_nil]
theorem nthB_take_old (zs : List Int) (n k : Nat) (h : k ≠ n) : nthB (zs.take (n + 1)) k = nthB (zs.take n) k := by
  unfold nthB
  rw [List.getD_eq_getElem?_getD, List.getD_eq_getElem?_getD]
  rcases Nat.lt_or_gt_of_ne h with h | h
  · rw [List.getElem?_take_of_lt (by omega), List.getElem?_take_of_lt (by omega)]
  · rw [List.getElem?_eq_none (by rw [List.length_take]; omega), List.getElem?_eq_none (by rw [List.length_take]; omega)]
theorem nthB_take_new (zs : List Int) (n k : Nat) (h : n ≤ k) : nthB (zs.take n) k = 0 := by
  unfold nthB
  rw [List.getD_eq_getElem?_getD, List.getElem?_eq_none (by rw [List.length_take]; omega)]
  rfl
theorem nthB_take_at (zs : List Int) (n : Nat) (h : n < zs.length) : nthB (zs.take (n + 1)) n = if zs[n] = 1 then 1 else 0 := by
  unfold nthB
  rw [List.getD_eq_getElem?_getD, List.getElem?_take_of_lt (by omega), List.getElem?_eq_getElem h]
  rfl
theorem byteOf_other (zs : List Int) (n j : Nat) (h : j ≠ n / 8) : byteOf (zs.take (n + 1)) j = byteOf (zs.take n) j := by
  unfold byteOf
  rw [nthB_take_old zs n _ (by omega), nthB_take_old zs n _ (by omega), nthB_take_old zs n _ (by omega), nthB_take_old zs n _ (by omega), nthB_take_old zs n _ (by omega), nthB_take_old zs n _ (by omega), nthB_take_old zs n _ (by omega), nthB_take_old zs n _ (by omega)]
/-- the bit that comes in -/
theorem byteOf_next (zs : List Int) (n : Nat) (h : n < zs.length) : byteOf (zs.take (n + 1)) (n / 8) = byteOf (zs.take n) (n / 8) + (if zs[n] = 1 then 1 else 0) * 2 ^ (n % 8) ∧ byteOf (zs.take n) (n / 8) < 2 ^ (n % 8) := by
  have key := nthB_take_at zs n h
  generalize (if zs[n] = 1 then 1 else 0) = b at key
  have hn : n = 8 * (n / 8) + n % 8 := by omega
  generalize hj : n / 8 = j at hn ⊢
  generalize hr : n % 8 = r at hn ⊢
  have hr8 : r < 8 := by omega
  have bd : ∀ k, nthB (zs.take n) k ≤ 1 := nthB_le _
  have z : ∀ k, n ≤ k → nthB (zs.take n) k = 0 := nthB_take_new zs n
  have o : ∀ k, k ≠ n → nthB (zs.take (n + 1)) k = nthB (zs.take n) k := nthB_take_old zs n
  have hB : ∀ i, i < 8 → nthB (zs.take (n + 1)) (8 * j + i) = nthB (zs.take n) (8 * j + i) + if i = r then b else 0 := by
    intro i hi
    by_cases e : i = r
    · rw [if_pos e, e, ← hn, key, z n (Nat.le_refl _), Nat.zero_add]
    · rw [if_neg e, o _ (by omega), Nat.add_zero]
  have hZ : ∀ i, r ≤ i → nthB (zs.take n) (8 * j + i) = 0 := fun i hi => z _ (by omega)
  have b1 := hB 1 (by omega); have b2 := hB 2 (by omega); have b3 := hB 3 (by omega)
  have b4 := hB 4 (by omega); have b5 := hB 5 (by omega); have b6 := hB 6 (by omega); have b7 := hB 7 (by omega)
  have c1 := hZ 1; have c2 := hZ 2; have c3 := hZ 3; have c4 := hZ 4; have c5 := hZ 5; have c6 := hZ 6; have c7 := hZ 7
  have d1 := bd (8 * j + 1); have d2 := bd (8 * j + 2); have d3 := bd (8 * j + 3); have d4 := bd (8 * j + 4); have d5 := bd (8 * j + 5); have d6 := bd (8 * j + 6); have d7 := bd (8 * j + 7)
  unfold byteOf
  have b0 : nthB (zs.take (n + 1)) (8 * j) = nthB (zs.take n) (8 * j) + if 0 = r then b else 0 := hB 0 (by omega)
  have c0 : r ≤ 0 → nthB (zs.take n) (8 * j) = 0 := hZ 0
  have d0 : nthB (zs.take n) (8 * j) ≤ 1 := bd _
  generalize nthB (zs.take n) (8 * j) = x0 at *
  generalize nthB (zs.take n) (8 * j + 1) = x1 at *
  generalize nthB (zs.take n) (8 * j + 2) = x2 at *
  generalize nthB (zs.take n) (8 * j + 3) = x3 at *
  generalize nthB (zs.take n) (8 * j + 4) = x4 at *
  generalize nthB (zs.take n) (8 * j + 5) = x5 at *
  generalize nthB (zs.take n) (8 * j + 6) = x6 at *
  generalize nthB (zs.take n) (8 * j + 7) = x7 at *
  rw [b0, b1, b2, b3, b4, b5, b6, b7]
  clear b0 b1 b2 b3 b4 b5 b6 b7 hB hZ z o bd key
  match r, hr8 with
  | 0, _ => simp at *; omega
  | 1, _ => simp at *; omega
  | 2, _ => simp at *; omega
  | 3, _ => simp at *; omega
  | 4, _ => simp at *; omega
  | 5, _ => simp at *; omega
  | 6, _ => simp at *; omega
  | 7, _ => simp at *; omega
theorem packAt_step (zs : List Int) (n : Nat) (h : n < zs.length) (x : Int) (hx : x = (byteOf (zs.take (n + 1)) (n / 8) : Int)) : (packAt zs n).set (n / 8) x = packAt zs (n + 1) := by
  subst hx
  apply List.ext_getElem
  · simp [packAt]
  · intro j h1 h2
    rw [packAt_get, List.getElem_set]
    split
    · next e => rw [e]
    · next e => rw [packAt_get, byteOf_other zs n j (fun h => e h.symm)]
theorem packAt_same (zs : List Int) (n : Nat) (h : n < zs.length) (hb : ¬ zs[n] = 1) : packAt zs (n + 1) = packAt zs n := by
  apply List.ext_getElem
  · simp [packAt]
  · intro j h1 h2
    rw [packAt_get, packAt_get]
    by_cases e : j = n / 8
    · rw [e, (byteOf_next zs n h).1, if_neg hb, Nat.zero_mul, Nat.add_zero]
    · rw [byteOf_other zs n j e]
theorem packAt_all (zs : List Int) : packAt zs zs.length = (packL zs).map fun b => (b.toNat : Int) := by
  unfold packAt packL
  rw [List.take_length, List.map_map]
  apply List.map_congr_left
  intro j hj
  have := byteOf_lt zs j
  simp
  omega
/-- bits of bytes -/
def unpackL (s : ByteArray) (m : Nat) : List Int := (List.range m).map fun i => ((byteAt s (i / 8) / 2 ^ (i % 8) % 2 : Nat) : Int)
theorem unpackL_length (s : ByteArray) (m : Nat) : (unpackL s m).length = m := by simp [unpackL]
theorem unpackL_get (s : ByteArray) (m i : Nat) (h : i < (unpackL s m).length) : (unpackL s m)[i] = ((byteAt s (i / 8) / 2 ^ (i % 8) % 2 : Nat) : Int) := by simp [unpackL]
theorem byteOf_bit (zs : List Int) (j r : Nat) (hr : r < 8) : byteOf zs j / 2 ^ r % 2 = nthB zs (8 * j + r) := by
  have d0 := nthB_le zs (8 * j); have d1 := nthB_le zs (8 * j + 1); have d2 := nthB_le zs (8 * j + 2); have d3 := nthB_le zs (8 * j + 3)
  have d4 := nthB_le zs (8 * j + 4); have d5 := nthB_le zs (8 * j + 5); have d6 := nthB_le zs (8 * j + 6); have d7 := nthB_le zs (8 * j + 7)
  unfold byteOf
  match r, hr with
  | 0, _ => simp; omega
  | 1, _ => simp; omega
  | 2, _ => simp; omega
  | 3, _ => simp; omega
  | 4, _ => simp; omega
  | 5, _ => simp; omega
  | 6, _ => simp; omega
  | 7, _ => simp; omega
theorem byteAt_pack (zs : List Int) (j : Nat) (h : j < (zs.length + 7) / 8) : byteAt (packB zs) j = byteOf zs j := by
  have := byteOf_lt zs j
  unfold byteAt packB
  rw [List.getD_eq_getElem?_getD]
  simp [packL, h]
  omega
theorem unpack_pack (zs : List Int) (h : zs.all bitB = true) : unpackL (packB zs) zs.length = zs := by
  apply List.ext_getElem
  · rw [unpackL_length]
  · intro i h1 h2
    rw [unpackL_get, byteAt_pack zs _ (by omega), byteOf_bit zs _ _ (by omega), show 8 * (i / 8) + i % 8 = i by omega]
    have hb := (bitB_iff _).1 (List.all_eq_true.1 h _ (List.getElem_mem h2))
    unfold nthB
    rw [List.getD_eq_getElem?_getD, List.getElem?_eq_getElem h2]
    rcases hb with e | e <;> simp [e]
end Go.Proofs.Ytklpaleghanhhaa
/- CHAPTER 6 over lists: tables. -/
namespace Go.Proofs.Ytklpaleghanhhaa
open Go.RowKit
set_option linter.unusedVariables false
set_option linter.unusedSimpArgs false

/-- a table -/
structure Tb where
  cs : List Int
  rs : List Int
def Tb.right (t : Tb) : Bool := (decide (t.cs.length ≤ 24) && t.cs.all bitB) && (decide (t.rs.length ≤ 12) && t.rs.all wordB)
theorem Tb.right_iff (t : Tb) : t.right = true ↔ (t.cs.length ≤ 24 ∧ t.cs.all bitB = true) ∧ t.rs.length ≤ 12 ∧ t.rs.all wordB = true := by
  unfold Tb.right
  rw [Bool.and_eq_true, Bool.and_eq_true, Bool.and_eq_true, decide_eq_true_eq, decide_eq_true_eq]
def zeroT : Tb := ⟨[], []⟩
def newT (c r : Int) : Tb := if (0 ≤ c ∧ c ≤ 24) ∧ 0 ≤ r ∧ r ≤ 12 then ⟨List.replicate c.toNat 0, List.replicate r.toNat 0⟩ else zeroT
theorem newT_len (c r : Int) : (newT c r).cs.length ≤ 24 ∧ (newT c r).rs.length ≤ 12 := by
  unfold newT
  by_cases h : (0 ≤ c ∧ c ≤ 24) ∧ 0 ≤ r ∧ r ≤ 12
  · rw [if_pos h]; simp; omega
  · rw [if_neg h]; simp [zeroT]
def goodB (s : ByteArray) : Bool := (decide (1 ≤ s.size) && decide (s.size ≤ 8000)) && decide (byteAt s 0 < 128)
end Go.Proofs.Ytklpaleghanhhaa
