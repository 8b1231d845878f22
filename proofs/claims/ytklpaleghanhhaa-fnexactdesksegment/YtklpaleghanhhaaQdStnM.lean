/- A STATION'S OWN LISTS MARKED. -/
import Derived.Test.YtklpaleghanhhaaQdTail
import Derived.Test.YtklpaleghanhhaaQdMarksQ
namespace Go.Proofs.Ytklpaleghanhhaa
open Go.RowKit
set_option linter.unusedVariables false
set_option linter.unusedSimpArgs false

/-- only what lies in a stretch has turned -/
structure Only (w w' : World) (lo hi : Nat) : Prop where
  os : w'.os = w.os
  tape : w'.tape = w.tape
  output : w'.output = w.output
  size : w.heap.size ≤ w'.heap.size
  block : ∀ k, k < w.heap.size → (k < lo ∨ hi ≤ k) → w'.heap[k]? = w.heap[k]?
theorem Only.refl (w : World) (lo hi : Nat) : Only w w lo hi := ⟨rfl, rfl, rfl, Nat.le_refl _, fun _ _ _ => rfl⟩
theorem Only.trans {w a b : World} {lo hi : Nat} (h : Only w a lo hi) (g : Only a b lo hi) : Only w b lo hi :=
  ⟨g.os.trans h.os, g.tape.trans h.tape, g.output.trans h.output, Nat.le_trans h.size g.size, fun k hk hs => (g.block k (Nat.lt_of_lt_of_le hk h.size) hs).trans (h.block k hk hs)⟩
theorem Only.mono {w a : World} {lo hi lo' hi' : Nat} (h : Only w a lo hi) (h1 : lo' ≤ lo) (h2 : hi ≤ hi') : Only w a lo' hi' :=
  ⟨h.os, h.tape, h.output, h.size, fun k hk hs => h.block k hk (by omega)⟩
theorem Only.below {w a : World} {lo hi : Nat} (h : Below w.heap.size w a) : Only w a lo hi := ⟨h.os, h.tape, h.output, h.size, fun k hk _ => h.block k hk⟩
theorem Only.grown {w a : World} {lo hi : Nat} {row : Option Nat} (h : w.grownBy a row) (hr : ∀ k, row = some k → lo ≤ k ∧ k < hi) : Only w a lo hi :=
  ⟨h.os, h.tape, h.output, h.size, fun k hk hs => h.block k hk (fun e => by have := hr k e.symm; omega)⟩
theorem Only.set {w : World} {lo hi : Nat} {a : Addr} (h1 : lo ≤ a.block) (h2 : a.block < hi) (x : Value) : Only w (w.setCell a x) lo hi :=
  ⟨rfl, rfl, rfl, by simp [World.setCell], fun k hk hs => Below.heap_setCell _ _ _ _ (by omega)⟩
theorem Only.same {w a : World} {lo hi l h : Nat} (o : Only w a lo hi) (hd : h ≤ lo ∨ hi ≤ l) (hs : h ≤ w.heap.size) : Same w a l h := fun k h1 h2 => o.block k (by omega) (by omega)
theorem Only.frame {w a : World} {lo hi : Nat} (o : Only w a lo hi) {B : Nat} (hB : B ≤ lo) (hs : B ≤ w.heap.size) : Below B w a := ⟨o.os, o.tape, o.output, o.size, fun k hk => o.block k (by omega) (by omega)⟩
theorem markInts_B (s : Int) (hs : 0 ≤ s ∧ s ≤ 10000000) (lo hi : Nat) (v : Value) (zs : List Int) (w : World) (hl : zs.length ≤ 2000000) (h : OwnIB w lo hi v zs) :
    Calls Try.prog 103 #[v, .int .i64 s] w fun e w' => e = .returned (.int .i64 (s + (zs.length : Int))) ∧ OwnIB w' lo hi v (countK s zs.length) ∧ Only w w' lo hi :=
  (markInt64S_from s hs lo v zs w hl h.1).mono fun e w' ⟨h1, h2, h3⟩ => ⟨h1, ⟨h2, h.2⟩, Only.grown h3 fun k e => ⟨(OwnI.lt h.1 k e).1, h.2 k e⟩⟩
def markG (k : Int) : List (Int × List Int) → List (Int × List Int)
  | [] => []
  | g :: gs => (k, countK (k + 1) g.2.length) :: markG (k + 1 + (g.2.length : Int)) gs
theorem markG_length : ∀ (gs : List (Int × List Int)) (k : Int), (markG k gs).length = gs.length
  | [], _ => rfl
  | g :: gs, k => by simp [markG, markG_length gs]
theorem markG_at : ∀ (gs : List (Int × List Int)) (k : Int) (j : Nat) (h : j < gs.length) (h' : j < (markG k gs).length), (markG k gs)[j] = (k + (j : Int) + (wsum (gs.take j) : Int), countK (k + (j : Int) + (wsum (gs.take j) : Int) + 1) gs[j].2.length)
  | g :: gs, k, 0, _, _ => by simp [markG, wsum]
  | g :: gs, k, j + 1, h, h' => by
    have ih := markG_at gs (k + 1 + (g.2.length : Int)) j (by simpa using h) (by simpa [markG] using h')
    simp only [markG, List.getElem_cons_succ, List.take_succ_cons]
    rw [ih]
    have e : (wsum (g :: gs.take j) : Int) = (g.2.length : Int) + (wsum (gs.take j) : Int) := by simp [wsum]
    rw [e]
    have e2 : k + 1 + (g.2.length : Int) + (j : Int) + (wsum (gs.take j) : Int) = k + ((j + 1 : Nat) : Int) + ((g.2.length : Int) + (wsum (gs.take j) : Int)) := by push_cast; omega
    rw [e2]
/-- the first of them marked -/
def MarkG (w : World) (lo hi : Nat) (v : Value) (gs : List (Int × List Int)) (k : Int) (j : Nat) : Prop :=
  ∃ ps : List (Int × Value), ps.length = gs.length ∧ w.ownsRow lo 175 2 v gs.length (flatP ps) ∧
    (∀ i (h : i < gs.length) (h' : i < ps.length), if i < j then ps[i].1 = k + (i : Int) + (wsum (gs.take i) : Int) ∧ OwnIB w lo hi ps[i].2 (countK (k + (i : Int) + (wsum (gs.take i) : Int) + 1) gs[i].2.length) else OwnIB w lo hi ps[i].2 gs[i].2) ∧
    (∀ i j a (hi : i < ps.length) (hj : j < ps.length), ps[i].2.ownBlock = some a → ps[j].2.ownBlock = some a → i = j) ∧
    (∀ i a (hi : i < ps.length), ps[i].2.ownBlock = some a → v.ownBlock ≠ some a) ∧ (∀ k, v.ownBlock = some k → k < hi)
theorem MarkG.start {w : World} {lo hi : Nat} {v : Value} {gs : List (Int × List Int)} (h : OwnGB w lo hi v gs) (k : Int) : MarkG w lo hi v gs k 0 := by
  obtain ⟨ps, hl, hr, hk, hd, hn, hh⟩ := h
  exact ⟨ps, hl, hr, fun i h1 h2 => by rw [if_neg (by omega)]; exact (hk i h1 h2).2, hd, hn, hh⟩
theorem MarkG.done {w : World} {lo hi : Nat} {v : Value} {gs : List (Int × List Int)} {k : Int} (h : MarkG w lo hi v gs k gs.length) : OwnGB w lo hi v (markG k gs) := by
  obtain ⟨ps, hl, hr, hk, hd, hn, hh⟩ := h
  refine ⟨ps, by rw [markG_length]; exact hl, by rw [markG_length]; exact hr, fun i h1 h2 => ?_, hd, hn, hh⟩
  rw [markG_length] at h1
  have := hk i h1 h2
  rw [if_pos h1] at this
  rw [markG_at gs k i h1]
  exact this
/-- a row that stays while another one turns -/
theorem OwnIB.apart {w a : World} {lo hi : Nat} {v : Value} {zs : List Int} (h : OwnIB w lo hi v zs) {row : Option Nat} (g : w.grownBy a row) (hne : ∀ k, v.ownBlock = some k → row ≠ some k) : OwnIB a lo hi v zs := by
  refine ⟨World.ownsRow.kept h.1 g ?_, h.2⟩
  cases e : v.ownBlock with
  | none => exact .inl rfl
  | some k => exact .inr (fun e2 => hne k e e2.symm)
theorem MarkG.step {w w2 : World} {lo hi : Nat} {g0 : Nat} {n c : Nat} {gs : List (Int × List Int)} {k : Int} {j : Nat} (h : MarkG w lo hi (.slice (some ⟨g0, 0, none⟩) n c) gs k j) (hj : j < gs.length) (K : Int) (hK : K = k + (j : Int) + (wsum (gs.take j) : Int)) :
    ∃ u, (w.setCell ⟨g0, j * 2, none⟩ (.int .i64 K)).cell? ⟨g0, j * 2 + 1, none⟩ = some u ∧ OwnIB (w.setCell ⟨g0, j * 2, none⟩ (.int .i64 K)) lo hi u gs[j].2 ∧ (∀ k, u.ownBlock = some k → k ≠ g0) ∧
      ∀ w2, (w.setCell ⟨g0, j * 2, none⟩ (.int .i64 K)).grownBy w2 u.ownBlock → OwnIB w2 lo hi u (countK (K + 1) gs[j].2.length) → MarkG w2 lo hi (.slice (some ⟨g0, 0, none⟩) n c) gs k (j + 1) := by
  obtain ⟨ps, hl, hr, hk, hd, hn, hh⟩ := h
  have hn0 : n = gs.length := by
    rcases hr.2 with ⟨e, _⟩ | ⟨_, _, _, e, _⟩ <;> cases e
    rfl
  subst hn0
  have hjp : j < ps.length := by omega
  have hg0 : g0 < w.heap.size := (hr.lt g0 rfl).2
  have hg0l : lo ≤ g0 := (hr.lt g0 rfl).1
  have h1 := World.ownsRow.stored hr (j * 2) (.int .i64 K)
  have hrow := h1.1
  have hgr := h1.2
  rw [flatP_set1 ps j K hjp] at hrow
  have hne : ∀ i (hi : i < ps.length) a, ps[i].2.ownBlock = some a → a ≠ g0 := fun i hi a e e2 => hn i a hi e (by rw [e2]; rfl)
  have hkeep : ∀ i (hip : i < ps.length) (zs : List Int), OwnIB w lo hi ps[i].2 zs → OwnIB (w.setCell ⟨g0, j * 2, none⟩ (.int .i64 K)) lo hi ps[i].2 zs := fun i hip zs ho => ho.apart hgr (fun a e e2 => hne i hip a e (by injection e2 with e3; exact e3.symm))
  refine ⟨ps[j].2, ?_, ?_, fun a e => hne j hjp a e, ?_⟩
  · rw [hrow.cellAt (j * 2 + 1) (by omega), flatP_odd _ j (by rw [List.length_set]; exact hjp), List.getElem_set_self]
  · have := hk j hj hjp
    rw [if_neg (by omega)] at this
    exact hkeep j hjp _ this
  · intro w2 g2 ho
    refine ⟨ps.set j (K, ps[j].2), by rw [List.length_set]; exact hl, hrow.kept g2 ?_, ?_, ?_, ?_, hh⟩
    · cases e : ps[j].2.ownBlock with
      | none => exact .inr (by simp [Value.ownBlock])
      | some a => exact .inr (by intro e2; simp [Value.ownBlock] at e2; exact hne j hjp a e e2.symm)
    · intro i h1 h2
      have h2' : i < ps.length := by simpa using h2
      by_cases hij : i = j
      · subst hij
        rw [if_pos (by omega), List.getElem_set_self]
        exact ⟨hK, by rw [← hK]; exact ho⟩
      · rw [List.getElem_set_ne (fun e => hij e.symm)]
        have hi0 := hk i h1 h2'
        have hap : ∀ zs, OwnIB w lo hi ps[i].2 zs → OwnIB w2 lo hi ps[i].2 zs := fun zs hz => (hkeep i h2' zs hz).apart g2 (fun a e e2 => hij (hd i j a h2' hjp e e2))
        by_cases hlt : i < j
        · rw [if_pos hlt] at hi0
          rw [if_pos (by omega)]
          exact ⟨hi0.1, hap _ hi0.2⟩
        · rw [if_neg hlt] at hi0
          rw [if_neg (by omega)]
          exact hap _ hi0
    · intro i m a h1 h2 e1 e2
      have h1' : i < ps.length := by simpa using h1
      have h2' : m < ps.length := by simpa using h2
      have f : ∀ q (hq : q < ps.length) (hq' : q < (ps.set j (K, ps[j].2)).length), (ps.set j (K, ps[j].2))[q].2 = ps[q].2 := fun q hq hq' => by
        by_cases hqj : q = j
        · subst hqj; rw [List.getElem_set_self]
        · rw [List.getElem_set_ne (fun e => hqj e.symm)]
      rw [f i h1' h1] at e1
      rw [f m h2' h2] at e2
      exact hd i m a h1' h2' e1 e2
    · intro i a h1 e1
      have h1' : i < ps.length := by simpa using h1
      by_cases hqj : i = j
      · subst hqj
        rw [List.getElem_set_self] at e1
        exact hn i a h1' e1
      · rw [List.getElem_set_ne (fun e => hqj e.symm)] at e1
        exact hn i a h1' e1
end Go.Proofs.Ytklpaleghanhhaa
