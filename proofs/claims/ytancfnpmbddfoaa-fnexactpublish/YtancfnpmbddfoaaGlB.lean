/- A STATION'S OWN LISTS MARKED. -/
import Derived.Test.YtancfnpmbddfoaaGlA
import Derived.Test.YtancfnpmbddfoaaGlE
import Derived.Test.YtancfnpmbddfoaaMarksQ
namespace Go.Proofs.Ytancfnpmbddfoaa
open Go.RowKit
set_option linter.unusedVariables false
set_option linter.unusedSimpArgs false

/-- only what lies in a stretch has turned -/
structure Only (w w' : World) (lo hi : Nat) : Prop where
  os : w'.os = w.os
  tape : w'.tape = w.tape
  output : w'.output = w.output
  size : w.heap.size ≤ w'.heap.size
  block : ∀ k, k < w.heap.size → (k < lo ∨ hi ≤ k) → w'.heap[k]? = w.heap[k]?
theorem Only.refl (w : World) (lo hi : Nat) : Only w w lo hi := ⟨rfl, rfl, rfl, Nat.le_refl _, fun _ _ _ => rfl⟩
theorem Only.trans {w a b : World} {lo hi : Nat} (h : Only w a lo hi) (g : Only a b lo hi) : Only w b lo hi :=
  ⟨g.os.trans h.os, g.tape.trans h.tape, g.output.trans h.output, Nat.le_trans h.size g.size, fun k hk hs => (g.block k (Nat.lt_of_lt_of_le hk h.size) hs).trans (h.block k hk hs)⟩
theorem Only.mono {w a : World} {lo hi lo' hi' : Nat} (h : Only w a lo hi) (h1 : lo' ≤ lo) (h2 : hi ≤ hi') : Only w a lo' hi' :=
  ⟨h.os, h.tape, h.output, h.size, fun k hk hs => h.block k hk (by omega)⟩
theorem Only.below {w a : World} {lo hi : Nat} (h : Below w.heap.size w a) : Only w a lo hi := ⟨h.os, h.tape, h.output, h.size, fun k hk _ => h.block k hk⟩
theorem Only.grown {w a : World} {lo hi : Nat} {row : Option Nat} (h : w.grownBy a row) (hr : ∀ k, row = some k → lo ≤ k ∧ k < hi) : Only w a lo hi :=
  ⟨h.os, h.tape, h.output, h.size, fun k hk hs => h.block k hk (fun e => by have := hr k e.symm; omega)⟩
theorem Only.set {w : World} {lo hi : Nat} {a : Addr} (h1 : lo ≤ a.block) (h2 : a.block < hi) (x : Value) : Only w (w.setCell a x) lo hi :=
  ⟨rfl, rfl, rfl, by simp [World.setCell], fun k hk hs => Below.heap_setCell _ _ _ _ (by omega)⟩
theorem Only.same {w a : World} {lo hi l h : Nat} (o : Only w a lo hi) (hd : h ≤ lo ∨ hi ≤ l) (hs : h ≤ w.heap.size) : Same w a l h := fun k h1 h2 => o.block k (by omega) (by omega)
theorem Only.frame {w a : World} {lo hi : Nat} (o : Only w a lo hi) {B : Nat} (hB : B ≤ lo) (hs : B ≤ w.heap.size) : Below B w a := ⟨o.os, o.tape, o.output, o.size, fun k hk => o.block k (by omega) (by omega)⟩
theorem markInts_B (s : Int) (hs : 0 ≤ s ∧ s ≤ 10000000) (lo hi : Nat) (v : Value) (zs : List Int) (w : World) (hl : zs.length ≤ 2000000) (h : OwnIB w lo hi v zs) :
    Calls Try.prog 26 #[v, .int .i64 s] w fun e w' => e = .returned (.int .i64 (s + (zs.length : Int))) ∧ OwnIB w' lo hi v (countK s zs.length) ∧ Only w w' lo hi :=
  (markInt64S_from s hs lo v zs w hl h.1).mono fun e w' ⟨h1, h2, h3⟩ => ⟨h1, ⟨h2, h.2⟩, Only.grown h3 fun k e => ⟨(OwnI.lt h.1 k e).1, h.2 k e⟩⟩
def markG (k : Int) : List (Int × List Int) → List (Int × List Int)
  | [] => []
  | g :: gs => (k, countK (k + 1) g.2.length) :: markG (k + 1 + (g.2.length : Int)) gs
theorem markG_length : ∀ (gs : List (Int × List Int)) (k : Int), (markG k gs).length = gs.length
  | [], _ => rfl
  | g :: gs, k => by simp [markG, markG_length gs]
theorem markG_at : ∀ (gs : List (Int × List Int)) (k : Int) (j : Nat) (h : j < gs.length) (h' : j < (markG k gs).length), (markG k gs)[j] = (k + (j : Int) + (wsum (gs.take j) : Int), countK (k + (j : Int) + (wsum (gs.take j) : Int) + 1) gs[j].2.length)
  | g :: gs, k, 0, _, _ => by simp [markG, wsum]
  | g :: gs, k, j + 1, h, h' => by
    have ih := markG_at gs (k + 1 + (g.2.length : Int)) j (by simpa using h) (by simpa [markG] using h')
    simp only [markG, List.getElem_cons_succ, List.take_succ_cons]
    rw [ih]
    have e : (wsum (g :: gs.take j) : Int) = (g.2.length : Int) + (wsum (gs.take j) : Int) := by simp [wsum]
    rw [e]
    have e2 : k + 1 + (g.2.length : Int) + (j : Int) + (wsum (gs.take j) : Int) = k + ((j + 1 : Nat) : Int) + ((g.2.length : Int) + (wsum (gs.take j) : Int)) := by push_cast; omega
    rw [e2]
/-- the first of them marked -/
def MarkG (w : World) (lo hi : Nat) (v : Value) (gs : List (Int × List Int)) (k : Int) (j : Nat) : Prop :=
  ∃ ps : List (Int × Value), ps.length = gs.length ∧ w.ownsRow lo 79 2 v gs.length (flatP ps) ∧
    (∀ i (h : i < gs.length) (h' : i < ps.length), if i < j then ps[i].1 = k + (i : Int) + (wsum (gs.take i) : Int) ∧ OwnIB w lo hi ps[i].2 (countK (k + (i : Int) + (wsum (gs.take i) : Int) + 1) gs[i].2.length) else OwnIB w lo hi ps[i].2 gs[i].2) ∧
    (∀ i j a (hi : i < ps.length) (hj : j < ps.length), ps[i].2.ownBlock = some a → ps[j].2.ownBlock = some a → i = j) ∧
    (∀ i a (hi : i < ps.length), ps[i].2.ownBlock = some a → v.ownBlock ≠ some a) ∧ (∀ k, v.ownBlock = some k → k < hi)
theorem MarkG.start {w : World} {lo hi : Nat} {v : Value} {gs : List (Int × List Int)} (h : OwnGB w lo hi v gs) (k : Int) : MarkG w lo hi v gs k 0 := by
  obtain ⟨ps, hl, hr, hk, hd, hn, hh⟩ := h
  exact ⟨ps, hl, hr, fun i h1 h2 => by rw [if_neg (by omega)]; exact (hk i h1 h2).2, hd, hn, hh⟩
theorem MarkG.done {w : World} {lo hi : Nat} {v : Value} {gs : List (Int × List Int)} {k : Int} (h : MarkG w lo hi v gs k gs.length) : OwnGB w lo hi v (markG k gs) := by
  obtain ⟨ps, hl, hr, hk, hd, hn, hh⟩ := h
  refine ⟨ps, by rw [markG_length]; exact hl, by rw [markG_length]; exact hr, fun i h1 h2 => ?_, hd, hn, hh⟩
  rw [markG_length] at h1
  have := hk i h1 h2
  rw [if_pos h1] at this
  rw [markG_at gs k i h1]
  exact this
/-- a row that stays while another one turns -/
theorem OwnIB.apart {w a : World} {lo hi : Nat} {v : Value} {zs : List Int} (h : OwnIB w lo hi v zs) {row : Option Nat} (g : w.grownBy a row) (hne : ∀ k, v.ownBlock = some k → row ≠ some k) : OwnIB a lo hi v zs := by
  refine ⟨World.ownsRow.kept h.1 g ?_, h.2⟩
  cases e : v.ownBlock with
  | none => exact .inl rfl
  | some k => exact .inr (fun e2 => hne k e e2.symm)
theorem MarkG.step {w w2 : World} {lo hi : Nat} {g0 : Nat} {n c : Nat} {gs : List (Int × List Int)} {k : Int} {j : Nat} (h : MarkG w lo hi (.slice (some ⟨g0, 0, none⟩) n c) gs k j) (hj : j < gs.length) (K : Int) (hK : K = k + (j : Int) + (wsum (gs.take j) : Int)) :
    ∃ u, (w.setCell ⟨g0, j * 2, none⟩ (.int .i64 K)).cell? ⟨g0, j * 2 + 1, none⟩ = some u ∧ OwnIB (w.setCell ⟨g0, j * 2, none⟩ (.int .i64 K)) lo hi u gs[j].2 ∧ (∀ k, u.ownBlock = some k → k ≠ g0) ∧
      ∀ w2, (w.setCell ⟨g0, j * 2, none⟩ (.int .i64 K)).grownBy w2 u.ownBlock → OwnIB w2 lo hi u (countK (K + 1) gs[j].2.length) → MarkG w2 lo hi (.slice (some ⟨g0, 0, none⟩) n c) gs k (j + 1) := by
  obtain ⟨ps, hl, hr, hk, hd, hn, hh⟩ := h
  have hn0 : n = gs.length := by
    rcases hr.2 with ⟨e, _⟩ | ⟨_, _, _, e, _⟩ <;> cases e
    rfl
  subst hn0
  have hjp : j < ps.length := by omega
  have hg0 : g0 < w.heap.size := (hr.lt g0 rfl).2
  have hg0l : lo ≤ g0 := (hr.lt g0 rfl).1
  have h1 := World.ownsRow.stored hr (j * 2) (.int .i64 K)
  have hrow := h1.1
  have hgr := h1.2
  rw [flatP_set1 ps j K hjp] at hrow
  have hne : ∀ i (hi : i < ps.length) a, ps[i].2.ownBlock = some a → a ≠ g0 := fun i hi a e e2 => hn i a hi e (by rw [e2]; rfl)
  have hkeep : ∀ i (hip : i < ps.length) (zs : List Int), OwnIB w lo hi ps[i].2 zs → OwnIB (w.setCell ⟨g0, j * 2, none⟩ (.int .i64 K)) lo hi ps[i].2 zs := fun i hip zs ho => ho.apart hgr (fun a e e2 => hne i hip a e (by injection e2 with e3; exact e3.symm))
  refine ⟨ps[j].2, ?_, ?_, fun a e => hne j hjp a e, ?_⟩
  · rw [hrow.cellAt (j * 2 + 1) (by omega), flatP_odd _ j (by rw [List.length_set]; exact hjp), List.getElem_set_self]
  · have := hk j hj hjp
    rw [if_neg (by omega)] at this
    exact hkeep j hjp _ this
  · intro w2 g2 ho
    refine ⟨ps.set j (K, ps[j].2), by rw [List.length_set]; exact hl, hrow.kept g2 ?_, ?_, ?_, ?_, hh⟩
    · cases e : ps[j].2.ownBlock with
      | none => exact .inr (by simp [Value.ownBlock])
      | some a => exact .inr (by intro e2; simp [Value.ownBlock] at e2; exact hne j hjp a e e2.symm)
    · intro i h1 h2
      have h2' : i < ps.length := by simpa using h2
      by_cases hij : i = j
      · subst hij
        rw [if_pos (by omega), List.getElem_set_self]
        exact ⟨hK, by rw [← hK]; exact ho⟩
      · rw [List.getElem_set_ne (fun e => hij e.symm)]
        have hi0 := hk i h1 h2'
        have hap : ∀ zs, OwnIB w lo hi ps[i].2 zs → OwnIB w2 lo hi ps[i].2 zs := fun zs hz => (hkeep i h2' zs hz).apart g2 (fun a e e2 => hij (hd i j a h2' hjp e e2))
        by_cases hlt : i < j
        · rw [if_pos hlt] at hi0
          rw [if_pos (by omega)]
          exact ⟨hi0.1, hap _ hi0.2⟩
        · rw [if_neg hlt] at hi0
          rw [if_neg (by omega)]
          exact hap _ hi0
    · intro i m a h1 h2 e1 e2
      have h1' : i < ps.length := by simpa using h1
      have h2' : m < ps.length := by simpa using h2
      have f : ∀ q (hq : q < ps.length) (hq' : q < (ps.set j (K, ps[j].2)).length), (ps.set j (K, ps[j].2))[q].2 = ps[q].2 := fun q hq hq' => by
        by_cases hqj : q = j
        · subst hqj; rw [List.getElem_set_self]
        · rw [List.getElem_set_ne (fun e => hqj e.symm)]
      rw [f i h1' h1] at e1
      rw [f m h2' h2] at e2
      exact hd i m a h1' h2' e1 e2
    · intro i a h1 e1
      have h1' : i < ps.length := by simpa using h1
      by_cases hqj : i = j
      · subst hqj
        rw [List.getElem_set_self] at e1
        exact hn i a h1' e1
      · rw [List.getElem_set_ne (fun e => hqj e.symm)] at e1
        exact hn i a h1' e1
end Go.Proofs.Ytancfnpmbddfoaa
namespace Go.Proofs.Ytancfnpmbddfoaa
open Go.RowKit
set_option linter.unusedVariables false
set_option linter.unusedSimpArgs false

theorem MarkG.shape {w : World} {lo hi : Nat} {v : Value} {gs : List (Int × List Int)} {k : Int} {j : Nat} (h : MarkG w lo hi v gs k j) : ∃ a cap, v = .slice a gs.length cap := by
  obtain ⟨ps, hl, ⟨_, ⟨rfl, h0⟩ | ⟨g, cap, cur, rfl, _⟩⟩, _⟩ := h
  · rw [h0]; exact ⟨_, _, rfl⟩
  · exact ⟨_, _, rfl⟩
theorem MarkG.cell {w : World} {lo hi : Nat} {p : Option Addr} {n c : Nat} {gs : List (Int × List Int)} {k : Int} {j : Nat} (h : MarkG w lo hi (.slice p n c) gs k j) (i : Nat) (hi' : i < gs.length) : ∃ g, p = some ⟨g, 0, none⟩ ∧ lo ≤ g ∧ g < hi ∧ g < w.heap.size ∧ (∃ x, w.cell? ⟨g, i * 2, none⟩ = some (.int .i64 x)) ∧ w.frozen? ⟨g, i * 2, none⟩ = false := by
  obtain ⟨ps, hl, hr, _, _, _, hh⟩ := h
  rcases hr.2 with ⟨e, e0⟩ | ⟨g, cap, cur, e, hb, hg, _⟩
  · omega
  · cases e
    refine ⟨g, rfl, hb, hh g rfl, (Array.getElem?_eq_some_iff.1 hg).1, ⟨ps[i].1, ?_⟩, hr.frozenAt _⟩
    rw [hr.cellAt (i * 2) (by omega), flatP_even ps i (by omega)]
set_option maxRecDepth 100000 in
set_option maxHeartbeats 1600000 in
theorem markGlobS_any (k : Int) (hk0 : 0 ≤ k ∧ k ≤ 5000000) (lo hi : Nat) (v : Value) (gs : List (Int × List Int)) (w : World) (hl : (gs.length : Int) + (wsum gs : Int) ≤ 1048576) (h : OwnGB w lo hi v gs) :
    Calls Try.prog 66 #[v, .int .i64 k] w fun e w' => e = .returned (.int .i64 (k + ((gs.length : Int) + (wsum gs : Int)))) ∧ OwnGB w' lo hi v (markG k gs) ∧ Only w w' lo hi := by
  have HS : Hid (MarkG w lo hi v gs k 0) := MarkG.start h k
  obtain ⟨p, c, rfl⟩ := h.g.shape
  clear h
  have hl2 : gs.length ≤ 1048576 := by omega
  have HL : Hid _ := hl
  clear hl
  go_enter Try.func66, Try.ntmps66
  go_wp2
  go_loopw [1, 5] (fun x i wr => ∃ (j : Nat) (M : Int), j ≤ gs.length ∧ i = .int .i64 j ∧ x = .int .i64 M ∧ (0 ≤ M ∧ M ≤ 7000000) ∧ Hid (M = k + (j : Int) + (wsum (gs.take j) : Int)) ∧ Hid (MarkG wr lo hi (.slice p gs.length c) gs k j) ∧ Hid (Only w wr lo hi)) (fun _ i _ => gs.length - (intOf i).toNat)
  case atStart => exact ⟨0, k, Nat.zero_le _, rfl, rfl, by omega, (show _ = _ by simp [wsum]), HS.out, Only.refl _ _ _⟩
  case round =>
    obtain ⟨j, M, hj, rfl, rfl, hM, HM, HW, HO⟩ := hrel
    by_cases hlt : j < gs.length
    · obtain ⟨g, rfl, hg1, hg2, hgl, ⟨x, hq⟩, hf⟩ := HW.out.cell j hlt
      obtain ⟨u, hu, hou, hug, hnext⟩ := MarkG.step (w2 := wr) HW.out hlt M HM.out
      have HT : Hid _ := wsum_take gs j hlt
      have HE : Hid _ := wsum_le gs (j + 1)
      have hnw : gs[j].2.length ≤ 1048576 := by have h1 := HT.out; have h2 := HE.out; have h3 := HL.out; omega
      have hMl : M + 1 + (gs[j].2.length : Int) ≤ 7000000 := by have h1 := HT.out; have h2 := HE.out; have h3 := HL.out; have h4 := HM.out; omega
      have HC : Hid (Calls Try.prog 26 #[u, .int .i64 (M + 1)] (wr.setCell ⟨g, j * 2, none⟩ (.int .i64 M)) fun e w' => e = .returned (.int .i64 (M + 1 + (gs[j].2.length : Int))) ∧ MarkG w' lo hi (.slice (some ⟨g, 0, none⟩) gs.length c) gs k (j + 1) ∧ Only (wr.setCell ⟨g, j * 2, none⟩ (.int .i64 M)) w' lo hi) := (markInt64S_from (M + 1) (by omega) lo u gs[j].2 _ (by omega) hou.1).mono fun e w' ⟨h1, h2, h3⟩ => ⟨h1, hnext w' h3 ⟨h2, hou.2⟩, Only.grown h3 fun k e => ⟨(OwnI.lt hou.1 k e).1, hou.2 k e⟩⟩
      have HO2 : Hid (Only w (wr.setCell ⟨g, j * 2, none⟩ (.int .i64 M)) lo hi) := HO.out.trans (Only.set (a := ⟨g, j * 2, none⟩) hg1 hg2 _)
      have HM2 : Hid (M + 1 + (gs[j].2.length : Int) = k + ((j + 1 : Nat) : Int) + (wsum (gs.take (j + 1)) : Int)) := (by have h1 := HT.out; have h4 := HM.out; push_cast; omega : _ = _)
      clear hnext hug hou
      generalize gs[j].2.length = n at HC hMl HM2 hnw
      clear HT HE
      go_upto_region 6 with fail
      generalize wr.setCell ⟨g, j * 2, none⟩ (.int .i64 M) = W at hu HC HO2 ⊢
      go_wp2_with (go_at_call 26; refine HC.out.mono ?_; rintro e w2 ⟨rfl, hm2, ho2⟩)
      go_roundw
      case rel => exact ⟨j + 1, M + 1 + (n : Int), by omega, by go_num, by go_num, by omega, HM2.out, hm2, HO2.out.trans ho2⟩
      case measure => simp [intOf]; omega
    · obtain rfl : j = gs.length := by omega
      have e1 := HM.out
      rw [List.take_length] at e1
      have E2 : Hid (k + ((gs.length : Int) + (wsum gs : Int)) = M) := (by omega : _ = _)
      clear e1
      go_wp2
      go_ret
      exact ⟨by rw [E2.out]; rfl, HW.out.done, HO.out⟩
theorem ownG_cells {w : World} {lo : Nat} {v : Value} {gs : List (Int × List Int)} (h : OwnG w lo v gs) (k : Nat) (hk : k < gs.length) : ∃ g c u, v = .slice (some ⟨g, 0, none⟩) gs.length c ∧ w.cell? ⟨g, k * 2, none⟩ = some (.int .i64 gs[k].1) ∧ w.cell? ⟨g, k * 2 + 1, none⟩ = some u ∧ OwnI w lo u gs[k].2 := by
  obtain ⟨p, c, rfl⟩ := h.shape
  obtain ⟨ps, hl, hr, hk2, _⟩ := h
  obtain ⟨h1, h2⟩ := hk2 k hk (by omega)
  rcases hr.2 with ⟨e, e0⟩ | ⟨g, cap, cur, e, hb, hg, _⟩
  · omega
  · cases e
    refine ⟨g, c, ps[k].2, rfl, ?_, ?_, h2⟩
    · rw [hr.cellAt (k * 2) (by omega), flatP_even ps k (by omega), h1]
    · rw [hr.cellAt (k * 2 + 1) (by omega), flatP_odd ps k (by omega)]
set_option maxRecDepth 100000 in
set_option maxHeartbeats 1600000 in
theorem heldGlobS_any (k : Int) (hk0 : 0 ≤ k ∧ k ≤ 5000000) (lo : Nat) (v : Value) (gs : List (Int × List Int)) (w : World) (hl : (gs.length : Int) + (wsum gs : Int) ≤ 1048576) (h : OwnG w lo v (markG k gs)) :
    Calls Try.prog 80 #[v, .int .i64 k] w fun e w' => e = .returned (.int .i64 (k + ((gs.length : Int) + (wsum gs : Int)))) ∧ Below w.heap.size w w' := by
  have HR : Hid (∀ W, Below w.heap.size w W → ∀ j (hj : j < gs.length), ∃ g c u, v = .slice (some ⟨g, 0, none⟩) gs.length c ∧ W.cell? ⟨g, j * 2, none⟩ = some (.int .i64 (k + (j : Int) + (wsum (gs.take j) : Int))) ∧ W.cell? ⟨g, j * 2 + 1, none⟩ = some u ∧ OwnI W lo u (countK (k + (j : Int) + (wsum (gs.take j) : Int) + 1) gs[j].2.length)) := fun W hW j hj => by
    obtain ⟨g, c, u, e1, e2, e3, e4⟩ := ownG_cells (h.below hW) j (by rw [markG_length]; exact hj)
    rw [markG_length] at e1
    rw [markG_at gs k j hj] at e2 e4
    exact ⟨g, c, u, e1, e2, e3, e4⟩
  obtain ⟨p, c, hv⟩ := h.shape
  rw [markG_length] at hv
  subst hv
  clear h
  have hl2 : gs.length ≤ 1048576 := by omega
  have HL : Hid _ := hl
  clear hl
  go_enter Try.func80, Try.ntmps80
  go_wp2
  go_loopw [1, 5] (fun x i wr => ∃ (j : Nat) (M : Int), j ≤ gs.length ∧ i = .int .i64 j ∧ x = .int .i64 M ∧ (0 ≤ M ∧ M ≤ 7000000) ∧ Hid (M = k + (j : Int) + (wsum (gs.take j) : Int)) ∧ Below w.heap.size w wr) (fun _ i _ => gs.length - (intOf i).toNat)
  case atStart => exact ⟨0, k, Nat.zero_le _, rfl, rfl, by omega, (show _ = _ by simp [wsum]), Below.refl _ _⟩
  case round =>
    obtain ⟨j, M, hj, rfl, rfl, hM, HM, hbel⟩ := hrel
    by_cases hlt : j < gs.length
    · obtain ⟨g, c', u, e', q1, q2, hou⟩ := HR.out wr hbel j hlt
      cases e'
      rw [← HM.out] at q1 hou
      have HT : Hid _ := wsum_take gs j hlt
      have HE : Hid _ := wsum_le gs (j + 1)
      have hnw : gs[j].2.length ≤ 1048576 := by have h1 := HT.out; have h2 := HE.out; have h3 := HL.out; omega
      have hMl : M + 1 + (gs[j].2.length : Int) ≤ 7000000 := by have h1 := HT.out; have h2 := HE.out; have h3 := HL.out; have h4 := HM.out; omega
      have HC : Hid (Calls Try.prog 31 #[u, .int .i64 (M + 1)] wr fun e w' => e = .returned (.int .i64 (M + 1 + (gs[j].2.length : Int))) ∧ Below wr.heap.size wr w') := heldInt64S_from (M + 1) (by omega) lo u gs[j].2.length wr (by omega) hou
      have HM2 : Hid (M + 1 + (gs[j].2.length : Int) = k + ((j + 1 : Nat) : Int) + (wsum (gs.take (j + 1)) : Int)) := (by have h1 := HT.out; have h4 := HM.out; push_cast; omega : _ = _)
      clear hou
      generalize gs[j].2.length = n at HC hMl HM2 hnw
      clear HT HE
      have es : (M != M) = false := by simp
      have h6 : ¬ M + 1 + (n : Int) < 0 := by omega
      go_wp2_with (go_at_call 31; refine HC.out.mono ?_; rintro e w2 ⟨rfl, hb2⟩)
      go_roundw
      case rel => exact ⟨j + 1, M + 1 + (n : Int), by omega, by go_num, by go_num, by omega, HM2.out, keepB hbel (Nat.le_refl _) hb2⟩
      case measure => simp [intOf]; omega
    · obtain rfl : j = gs.length := by omega
      have e1 := HM.out
      rw [List.take_length] at e1
      have E2 : Hid (k + ((gs.length : Int) + (wsum gs : Int)) = M) := (by omega : _ = _)
      clear e1
      go_wp2
      go_ret
      exact ⟨by rw [E2.out]; rfl, hbel⟩
/-- texts marked -/
def marksK (k n : Nat) : List ByteArray := (List.range n).map fun i => markB (k + i)
theorem marksK_length (k n : Nat) : (marksK k n).length = n := by simp [marksK]
theorem marksK_at (k n i : Nat) (h : i < (marksK k n).length) : (marksK k n)[i] = markB (k + i) := by simp [marksK]
theorem marksK_succ (k n : Nat) : marksK k (n + 1) = marksK k n ++ [markB (k + n)] := by simp [marksK, List.range_succ]
theorem marksK_step (k : Nat) (ss : List ByteArray) (j : Nat) (h : j < ss.length) : (marksK k j ++ ss.drop j).set j (markB (k + j)) = marksK k (j + 1) ++ ss.drop (j + 1) := by
  have := set_midS (l := marksK k j) (m := ss.drop j) (c := markB (k + j)) (by intro e; have := congrArg List.length e; simp at this; omega)
  rw [marksK_length] at this
  rw [this, marksK_succ, List.drop_drop]
theorem grown_setS {w a : World} {g : Nat} (h : w.grownBy a (some g)) (o : Nat) (v : Value) : w.grownBy (a.setCell ⟨g, o, none⟩ v) (some g) := grown_setI h o v
set_option maxRecDepth 100000 in
set_option maxHeartbeats 1600000 in
theorem markStringS_from (k : Nat) (hk0 : 0 < k ∧ k ≤ 7000000) (lo hi : Nat) (v : Value) (ss : List ByteArray) (w : World) (hl : ss.length ≤ 1048576) (h : OwnTB w lo hi v ss) :
    Calls Try.prog 67 #[v, .int .i64 k] w fun e w' => e = .returned (.int .i64 ((k : Int) + (ss.length : Int))) ∧ OwnTB w' lo hi v (marksK k ss.length) ∧ Only w w' lo hi := by
  obtain ⟨p, cap, rfl⟩ := h.1.shape
  have HH : Hid (∀ g, (Value.slice p ss.length cap).ownBlock = some g → lo ≤ g ∧ g < hi) := fun g e => ⟨(h.1.lt g e).1, h.2 g e⟩
  have HO : Hid (OwnT4 w lo (.slice p ss.length cap) ss) := h.1
  have HB : Hid _ := h.2
  clear h
  go_enter Try.func67, Try.ntmps67
  go_wp2
  go_loopw [1, 5] (fun x i wr => ∃ j : Nat, j ≤ ss.length ∧ i = .int .i64 j ∧ x = .int .i64 ((k : Int) + (j : Int)) ∧ Hid (OwnT4 wr lo (.slice p ss.length cap) (marksK k j ++ ss.drop j)) ∧ Hid (w.grownBy wr (Value.slice p ss.length cap).ownBlock)) (fun _ i _ => ss.length - (intOf i).toNat)
  case atStart => exact ⟨0, Nat.zero_le _, rfl, by simp, (show OwnT4 _ _ _ _ from HO.out), grown_reflI _ _⟩
  case round =>
    obtain ⟨j, hj, rfl, rfl, HW, HGR⟩ := hrel
    have hlen : (marksK k j ++ ss.drop j).length = ss.length := by rw [List.length_append, marksK_length, List.length_drop]; omega
    by_cases hlt : j < ss.length
    · obtain ⟨g, hpg, _, hgl, _, _⟩ := HW.out.cell j (by rw [hlen]; exact hlt)
      subst hpg
      have HM : Hid (∀ w : World, Calls Try.prog 79 #[.int .i64 ((k : Int) + (j : Int))] w fun e w' => e = .returned (.string (markB (k + j))) ∧ Below w.heap.size w w') := fun W => by have := markText_any (k + j) W (by omega) (by omega); rwa [show ((k + j : Nat) : Int) = (k : Int) + (j : Int) by omega] at this
      have HST : Hid _ := marksK_step k ss j hlt
      generalize markB (k + j) = m at HM HST
      have hk : j < (marksK k j ++ ss.drop j).length := by rw [hlen]; exact hlt
      obtain ⟨old, hqq⟩ : ∃ old, ∀ W, Below wr.heap.size wr W → W.cell? ⟨g, j, none⟩ = some (.string old) ∧ W.frozen? ⟨g, j, none⟩ = false := by
        refine ⟨(marksK k j ++ ss.drop j)[j], fun W hW => ?_⟩
        obtain ⟨g', hg', _, _, q1, q2⟩ := (HW.out.below hW).cell j hk
        cases hg'
        exact ⟨q1, q2⟩
      have hq := fun W hW => (hqq W hW).1
      have hf := fun W hW => (hqq W hW).2
      clear hqq
      go_wp2_with (go_at_call 79; refine (HM.out _).mono ?_; rintro e w1 ⟨rfl, hb1⟩)
      have h1 := HW.out.below hb1
      go_roundw
      case rel => exact ⟨j + 1, by omega, by go_num, by go_num, (show OwnT4 _ _ _ _ by rw [← HST.out]; exact h1.set j hk m), grown_setI (grown_belowI HGR.out hb1) j _⟩
      case measure => simp [intOf]; omega
    · obtain rfl : j = ss.length := by omega
      go_wp2
      go_ret
      refine ⟨rfl, ⟨?_, HB.out⟩, Only.grown HGR.out HH.out⟩
      have := HW.out
      rwa [List.drop_length, List.append_nil] at this
set_option maxRecDepth 100000 in
set_option maxHeartbeats 1600000 in
theorem heldStringS_from (k : Nat) (hk0 : 0 < k ∧ k ≤ 7000000) (lo : Nat) (v : Value) (n : Nat) (w : World) (hl : n ≤ 1048576) (h : OwnT4 w lo v (marksK k n)) :
    Calls Try.prog 81 #[v, .int .i64 k] w fun e w' => e = .returned (.int .i64 ((k : Int) + (n : Int))) ∧ Below w.heap.size w w' := by
  obtain ⟨p, cap, rfl⟩ := h.shape
  have HO : Hid _ := fun W hW => (OwnT4.below (w' := W) h hW).cell
  clear h
  rw [marksK_length]
  go_enter Try.func81, Try.ntmps81
  go_wp2
  go_loopw [1, 5] (fun x i wr => ∃ j : Nat, j ≤ n ∧ i = .int .i64 j ∧ x = .int .i64 ((k : Int) + (j : Int)) ∧ Below w.heap.size w wr) (fun _ i _ => n - (intOf i).toNat)
  case atStart => exact ⟨0, Nat.zero_le _, rfl, by simp, Below.refl _ _⟩
  case round =>
    obtain ⟨j, hj, rfl, rfl, hbel⟩ := hrel
    by_cases hlt : j < n
    · obtain ⟨g, hpg, _, hgl, _, _⟩ := HO.out wr hbel j (by rw [marksK_length]; exact hlt)
      subst hpg
      have HM : Hid (∀ w : World, Calls Try.prog 79 #[.int .i64 ((k : Int) + (j : Int))] w fun e w' => e = .returned (.string (markB (k + j))) ∧ Below w.heap.size w w') := fun W => by have := markText_any (k + j) W (by omega) (by omega); rwa [show ((k + j : Nat) : Int) = (k : Int) + (j : Int) by omega] at this
      have hq : ∀ W, Below w.heap.size w W → W.cell? ⟨g, j, none⟩ = some (.string (markB (k + j))) := by
        intro W hW
        obtain ⟨g', hg', _, _, q1, _⟩ := HO.out W hW j (by rw [marksK_length]; exact hlt)
        cases hg'
        rw [marksK_at] at q1
        exact q1
      generalize markB (k + j) = m at HM hq
      have es : (m.toList == m.toList) = true := by simp
      go_wp2
      go_region_held3 (fun w' => Below w.heap.size w w') (first | assumption | exact Below.drew hbel | exact keepB (by assumption) (by simp) hb1) (first | (go_at_call 79; refine (HM.out _).mono ?_; rintro e w1 ⟨rfl, hb1⟩))
      have hS : Below w.heap.size w w1 := by assumption
      go_wp2
      go_roundw
      case rel => exact ⟨j + 1, by omega, by go_num, by go_num, hS⟩
      case measure => simp [intOf]; omega
    · obtain rfl : j = n := by omega
      go_wp2
      go_ret
      exact ⟨rfl, hbel⟩
end Go.Proofs.Ytancfnpmbddfoaa
namespace Go.Proofs.Ytancfnpmbddfoaa
open Go.RowKit
set_option linter.unusedVariables false
set_option linter.unusedSimpArgs false

/-- a station's own lists, each in its stretch, all of them below a top -/
structure OwnStnB (w : World) (base top : Nat) (v1 v2 v3 v4 : Value) (s : Stn) : Prop where
  le : top ≤ w.heap.size
  all : ∃ l1 h1 l2 h2 l3 h3 l4 h4, (base ≤ l1 ∧ base ≤ l2 ∧ base ≤ l3 ∧ base ≤ l4) ∧ (h1 ≤ top ∧ h2 ≤ top ∧ h3 ≤ top ∧ h4 ≤ top) ∧
    OwnIB w l1 h1 v1 s.kn ∧ OwnIB w l2 h2 v2 s.ws ∧ OwnGB w l3 h3 v3 s.gs ∧ OwnTB w l4 h4 v4 s.os ∧
    (h1 ≤ l2 ∨ h2 ≤ l1) ∧ (h1 ≤ l3 ∨ h3 ≤ l1) ∧ (h1 ≤ l4 ∨ h4 ≤ l1) ∧ (h2 ≤ l3 ∨ h3 ≤ l2) ∧ (h2 ≤ l4 ∨ h4 ≤ l2) ∧ (h3 ≤ l4 ∨ h4 ≤ l3)
theorem OwnStn.top {w : World} {base : Nat} {v1 v2 v3 v4 : Value} {s : Stn} (h : OwnStn w base v1 v2 v3 v4 s) : OwnStnB w base w.heap.size v1 v2 v3 v4 s := ⟨Nat.le_refl _, h.all⟩
theorem OwnStnB.stn {w : World} {base top : Nat} {v1 v2 v3 v4 : Value} {s : Stn} (h : OwnStnB w base top v1 v2 v3 v4 s) : OwnStn w base v1 v2 v3 v4 s := by
  obtain ⟨l1, h1, l2, h2, l3, h3, l4, h4, hl, hh, r⟩ := h.all
  have := h.le
  exact ⟨l1, h1, l2, h2, l3, h3, l4, h4, hl, ⟨by omega, by omega, by omega, by omega⟩, r⟩
theorem OwnStnB.same {w w' : World} {base top : Nat} {v1 v2 v3 v4 : Value} {s : Stn} (h : OwnStnB w base top v1 v2 v3 v4 s) (hs : Same w w' base top) (hz : w.heap.size ≤ w'.heap.size) : OwnStnB w' base top v1 v2 v3 v4 s := by
  obtain ⟨l1, h1, l2, h2, l3, h3, l4, h4, hl, hh, o1, o2, o3, o4, d⟩ := h.all
  have := h.le
  exact ⟨by omega, l1, h1, l2, h2, l3, h3, l4, h4, hl, hh, o1.same (fun k a b => hs k (by omega) (by omega)), o2.same (fun k a b => hs k (by omega) (by omega)), o3.same (fun k a b => hs k (by omega) (by omega)), o4.same (fun k a b => hs k (by omega) (by omega)), d⟩
theorem OwnStnB.below {w w' : World} {base top : Nat} {v1 v2 v3 v4 : Value} {s : Stn} (h : OwnStnB w base top v1 v2 v3 v4 s) (hb : Below w.heap.size w w') : OwnStnB w' base top v1 v2 v3 v4 s := h.same (Same.below hb h.le) hb.size
/-- how many marks a station takes -/
def Stn.cnt (s : Stn) : Int := (s.kn.length : Int) + (s.ws.length : Int) + ((s.gs.length : Int) + (wsum s.gs : Int)) + (s.os.length : Int)
def Stn.marked (s : Stn) : Stn := { s with kn := countK 1 s.kn.length, ws := countK (1 + (s.kn.length : Int)) s.ws.length, gs := markG (1 + (s.kn.length : Int) + (s.ws.length : Int)) s.gs, os := marksK (1 + s.kn.length + s.ws.length + (s.gs.length + wsum s.gs)) s.os.length }
set_option maxRecDepth 100000 in
set_option maxHeartbeats 3200000 in
theorem markStation_any (s : Stn) (base top : Nat) (v1 v2 v3 v4 : Value) (w : World) (hl : s.cnt ≤ 1048576) (h : OwnStnB w base top v1 v2 v3 v4 s) :
    Calls Try.prog 25 #[.agg #[.int .i64 s.ad, .int .i64 s.bo, .int .i64 s.st, .int .i64 s.s.g, .int .i64 s.s.o, .int .i64 s.s.b, .int .i64 s.s.h, .int .i64 s.t.g, .int .i64 s.t.o, .int .i64 s.t.b, .int .i64 s.t.h, .int .i64 s.qu, .int .i64 s.tr, .int .i64 s.he, .int .i64 s.po, v1, v2, v3, v4], .int .i64 1] w fun e w' => e = .returned (.int .i64 (1 + s.cnt)) ∧ OwnStnB w' base top v1 v2 v3 v4 s.marked ∧ Only w w' base top := by
  obtain ⟨l1, h1, l2, h2, l3, h3, l4, h4, ⟨b1, b2, b3, b4⟩, ⟨t1, t2, t3, t4⟩, o1, o2, o3, o4, d12, d13, d14, d23, d24, d34⟩ := h.all
  have hle := h.le
  obtain ⟨p1, c1, e1⟩ := o1.1.shape
  obtain ⟨p2, c2, e2⟩ := o2.1.shape
  obtain ⟨p3, c3, e3⟩ := o3.g.shape
  obtain ⟨p4, c4, e4⟩ := o4.1.shape
  subst e1; subst e2; subst e3; subst e4
  clear h
  have hA := all_alloc w (.cells #[.int .i64 s.ad, .int .i64 s.bo, .int .i64 s.st, .int .i64 s.s.g, .int .i64 s.s.o, .int .i64 s.s.b, .int .i64 s.s.h, .int .i64 s.t.g, .int .i64 s.t.o, .int .i64 s.t.b, .int .i64 s.t.h, .int .i64 s.qu, .int .i64 s.tr, .int .i64 s.he, .int .i64 s.po, .slice p1 s.kn.length c1, .slice p2 s.ws.length c2, .slice p3 s.gs.length c3, .slice p4 s.os.length c4] 34)
  have hX : Hid _ := heap_alloc_new w (.cells #[.int .i64 s.ad, .int .i64 s.bo, .int .i64 s.st, .int .i64 s.s.g, .int .i64 s.s.o, .int .i64 s.s.b, .int .i64 s.s.h, .int .i64 s.t.g, .int .i64 s.t.o, .int .i64 s.t.b, .int .i64 s.t.h, .int .i64 s.qu, .int .i64 s.tr, .int .i64 s.he, .int .i64 s.po, .slice p1 s.kn.length c1, .slice p2 s.ws.length c2, .slice p3 s.gs.length c3, .slice p4 s.os.length c4] 34)
  have hsA : (w.alloc (.cells #[.int .i64 s.ad, .int .i64 s.bo, .int .i64 s.st, .int .i64 s.s.g, .int .i64 s.s.o, .int .i64 s.s.b, .int .i64 s.s.h, .int .i64 s.t.g, .int .i64 s.t.o, .int .i64 s.t.b, .int .i64 s.t.h, .int .i64 s.qu, .int .i64 s.tr, .int .i64 s.he, .int .i64 s.po, .slice p1 s.kn.length c1, .slice p2 s.ws.length c2, .slice p3 s.gs.length c3, .slice p4 s.os.length c4] 34)).heap.size = w.heap.size + 1 := by simp
  unfold Stn.cnt at hl ⊢
  have k1 : s.kn.length ≤ 1048576 := by omega
  have k2 : s.ws.length ≤ 1048576 := by omega
  have k3 : (s.gs.length : Int) + (wsum s.gs : Int) ≤ 1048576 := by omega
  have k4 : s.os.length ≤ 1048576 := by omega
  have G1 : ∀ W, OwnIB W l1 h1 (.slice p1 s.kn.length c1) s.kn → Calls Try.prog 26 #[.slice p1 s.kn.length c1, .int .i64 1] W fun e w' => e = .returned (.int .i64 (1 + (s.kn.length : Int))) ∧ OwnIB w' l1 h1 (.slice p1 s.kn.length c1) (countK 1 s.kn.length) ∧ Only W w' l1 h1 := fun W hW => markInts_B 1 (by omega) l1 h1 _ s.kn W (by omega) hW
  have G2 : ∀ W, OwnIB W l2 h2 (.slice p2 s.ws.length c2) s.ws → Calls Try.prog 26 #[.slice p2 s.ws.length c2, .int .i64 (1 + (s.kn.length : Int))] W fun e w' => e = .returned (.int .i64 (1 + (s.kn.length : Int) + (s.ws.length : Int))) ∧ OwnIB w' l2 h2 (.slice p2 s.ws.length c2) (countK (1 + (s.kn.length : Int)) s.ws.length) ∧ Only W w' l2 h2 := fun W hW => markInts_B (1 + (s.kn.length : Int)) (by omega) l2 h2 _ s.ws W (by omega) hW
  have G3 : ∀ W, OwnGB W l3 h3 (.slice p3 s.gs.length c3) s.gs → Calls Try.prog 66 #[.slice p3 s.gs.length c3, .int .i64 (1 + (s.kn.length : Int) + (s.ws.length : Int))] W fun e w' => e = .returned (.int .i64 (1 + (s.kn.length : Int) + (s.ws.length : Int) + ((s.gs.length : Int) + (wsum s.gs : Int)))) ∧ OwnGB w' l3 h3 (.slice p3 s.gs.length c3) (markG (1 + (s.kn.length : Int) + (s.ws.length : Int)) s.gs) ∧ Only W w' l3 h3 := fun W hW => markGlobS_any (1 + (s.kn.length : Int) + (s.ws.length : Int)) (by omega) l3 h3 _ s.gs W k3 hW
  have G4 : ∀ W, OwnTB W l4 h4 (.slice p4 s.os.length c4) s.os → Calls Try.prog 67 #[.slice p4 s.os.length c4, .int .i64 (1 + (s.kn.length : Int) + (s.ws.length : Int) + ((s.gs.length : Int) + (wsum s.gs : Int)))] W fun e w' => e = .returned (.int .i64 (1 + (s.kn.length : Int) + (s.ws.length : Int) + ((s.gs.length : Int) + (wsum s.gs : Int)) + (s.os.length : Int))) ∧ OwnTB w' l4 h4 (.slice p4 s.os.length c4) (marksK (1 + s.kn.length + s.ws.length + (s.gs.length + wsum s.gs)) s.os.length) ∧ Only W w' l4 h4 := fun W hW => by
    have := markStringS_from (1 + s.kn.length + s.ws.length + (s.gs.length + wsum s.gs)) (by omega) l4 h4 _ s.os W k4 hW
    rwa [show ((1 + s.kn.length + s.ws.length + (s.gs.length + wsum s.gs) : Nat) : Int) = 1 + (s.kn.length : Int) + (s.ws.length : Int) + ((s.gs.length : Int) + (wsum s.gs : Int)) by omega] at this
  have H1 : Hid _ := G1
  have H2 : Hid _ := G2
  have H3 : Hid _ := G3
  have H4 : Hid _ := G4
  have q1 : Hid (OwnIB (w.alloc (.cells #[.int .i64 s.ad, .int .i64 s.bo, .int .i64 s.st, .int .i64 s.s.g, .int .i64 s.s.o, .int .i64 s.s.b, .int .i64 s.s.h, .int .i64 s.t.g, .int .i64 s.t.o, .int .i64 s.t.b, .int .i64 s.t.h, .int .i64 s.qu, .int .i64 s.tr, .int .i64 s.he, .int .i64 s.po, .slice p1 s.kn.length c1, .slice p2 s.ws.length c2, .slice p3 s.gs.length c3, .slice p4 s.os.length c4] 34)) l1 h1 _ s.kn) := o1.same (Same.below hA (by omega))
  have q2 : Hid (OwnIB (w.alloc (.cells #[.int .i64 s.ad, .int .i64 s.bo, .int .i64 s.st, .int .i64 s.s.g, .int .i64 s.s.o, .int .i64 s.s.b, .int .i64 s.s.h, .int .i64 s.t.g, .int .i64 s.t.o, .int .i64 s.t.b, .int .i64 s.t.h, .int .i64 s.qu, .int .i64 s.tr, .int .i64 s.he, .int .i64 s.po, .slice p1 s.kn.length c1, .slice p2 s.ws.length c2, .slice p3 s.gs.length c3, .slice p4 s.os.length c4] 34)) l2 h2 _ s.ws) := o2.same (Same.below hA (by omega))
  have q3 : Hid (OwnGB (w.alloc (.cells #[.int .i64 s.ad, .int .i64 s.bo, .int .i64 s.st, .int .i64 s.s.g, .int .i64 s.s.o, .int .i64 s.s.b, .int .i64 s.s.h, .int .i64 s.t.g, .int .i64 s.t.o, .int .i64 s.t.b, .int .i64 s.t.h, .int .i64 s.qu, .int .i64 s.tr, .int .i64 s.he, .int .i64 s.po, .slice p1 s.kn.length c1, .slice p2 s.ws.length c2, .slice p3 s.gs.length c3, .slice p4 s.os.length c4] 34)) l3 h3 _ s.gs) := o3.same (Same.below hA (by omega))
  have q4 : Hid (OwnTB (w.alloc (.cells #[.int .i64 s.ad, .int .i64 s.bo, .int .i64 s.st, .int .i64 s.s.g, .int .i64 s.s.o, .int .i64 s.s.b, .int .i64 s.s.h, .int .i64 s.t.g, .int .i64 s.t.o, .int .i64 s.t.b, .int .i64 s.t.h, .int .i64 s.qu, .int .i64 s.tr, .int .i64 s.he, .int .i64 s.po, .slice p1 s.kn.length c1, .slice p2 s.ws.length c2, .slice p3 s.gs.length c3, .slice p4 s.os.length c4] 34)) l4 h4 _ s.os) := o4.same (Same.below hA (by omega))
  clear G1 G2 G3 G4 o1 o2 o3 o4 k1 k2 k3 k4
  have hE : Hid ((1 : Int) + ((s.kn.length : Int) + (s.ws.length : Int) + ((s.gs.length : Int) + (wsum s.gs : Int)) + (s.os.length : Int)) = 1 + (s.kn.length : Int) + (s.ws.length : Int) + ((s.gs.length : Int) + (wsum s.gs : Int)) + (s.os.length : Int)) := (by omega : _ = _)
  go_enter Try.func25, Try.ntmps25
  go_upto_region 1 with fail
  generalize w.alloc (.cells #[.int .i64 s.ad, .int .i64 s.bo, .int .i64 s.st, .int .i64 s.s.g, .int .i64 s.s.o, .int .i64 s.s.b, .int .i64 s.s.h, .int .i64 s.t.g, .int .i64 s.t.o, .int .i64 s.t.b, .int .i64 s.t.h, .int .i64 s.qu, .int .i64 s.tr, .int .i64 s.he, .int .i64 s.po, .slice p1 s.kn.length c1, .slice p2 s.ws.length c2, .slice p3 s.gs.length c3, .slice p4 s.os.length c4] 34) = A at hA hX hsA q1 q2 q3 q4 ⊢
  have x15 := cellW hX.out 15 _ rfl A (Below.refl _ _)
  have hO : Only w A base top := Only.below hA
  go_upto_region 2 with (go_at_call 26; refine (H1.out _ q1.out).mono ?_; rintro e A1 ⟨rfl, m1, y1⟩)
  have hX1 : Hid _ := (y1.block w.heap.size (by omega) (by omega)).trans hX.out
  have z1 := y1.size
  have q2' : Hid (OwnIB A1 l2 h2 _ s.ws) := q2.out.same (y1.same (by omega) (by omega))
  have q3' : Hid (OwnGB A1 l3 h3 _ s.gs) := q3.out.same (y1.same (by omega) (by omega))
  have q4' : Hid (OwnTB A1 l4 h4 _ s.os) := q4.out.same (y1.same (by omega) (by omega))
  clear q1 q2 q3 q4 x15
  have x16 := cellW hX1.out 16 _ rfl A1 (Below.refl _ _)
  go_upto_region 3 with (go_at_call 26; refine (H2.out _ q2'.out).mono ?_; rintro e A2 ⟨rfl, m2, y2⟩)
  have hX2 : Hid _ := (y2.block w.heap.size (by omega) (by omega)).trans hX1.out
  have z2 := y2.size
  have m1' : Hid (OwnIB A2 l1 h1 _ _) := m1.same (y2.same (by omega) (by omega))
  have q3s : Hid (OwnGB A2 l3 h3 _ s.gs) := q3'.out.same (y2.same (by omega) (by omega))
  have q4s : Hid (OwnTB A2 l4 h4 _ s.os) := q4'.out.same (y2.same (by omega) (by omega))
  clear q2' q3' q4' x16 m1
  have x17 := cellW hX2.out 17 _ rfl A2 (Below.refl _ _)
  go_upto_region 4 with (go_at_call 66; refine (H3.out _ q3s.out).mono ?_; rintro e A3 ⟨rfl, m3, y3⟩)
  have hX3 : Hid _ := (y3.block w.heap.size (by omega) (by omega)).trans hX2.out
  have z3 := y3.size
  have m1s : Hid (OwnIB A3 l1 h1 _ _) := m1'.out.same (y3.same (by omega) (by omega))
  have m2s : Hid (OwnIB A3 l2 h2 _ _) := m2.same (y3.same (by omega) (by omega))
  have q4t : Hid (OwnTB A3 l4 h4 _ s.os) := q4s.out.same (y3.same (by omega) (by omega))
  clear q3s q4s x17 m1' m2
  have x18 := cellW hX3.out 18 _ rfl A3 (Below.refl _ _)
  go_wp2_with (go_at_call 67; refine (H4.out _ q4t.out).mono ?_; rintro e A4 ⟨rfl, m4, y4⟩)
  have z4 := y4.size
  go_ret
  refine ⟨by rw [hE.out]; rfl, ⟨by omega, l1, h1, l2, h2, l3, h3, l4, h4, ⟨b1, b2, b3, b4⟩, ⟨t1, t2, t3, t4⟩, m1s.out.same (y4.same (by omega) (by omega)), m2s.out.same (y4.same (by omega) (by omega)), m3.same (y4.same (by omega) (by omega)), m4, d12, d13, d14, d23, d24, d34⟩, ?_⟩
  exact (((hO.trans (y1.mono (by omega) (by omega))).trans (y2.mono (by omega) (by omega))).trans (y3.mono (by omega) (by omega))).trans (y4.mono (by omega) (by omega))
set_option maxRecDepth 100000 in
set_option maxHeartbeats 3200000 in
theorem heldStation_any (s : Stn) (base : Nat) (v1 v2 v3 v4 : Value) (w : World) (hl : s.cnt ≤ 1048576) (h : OwnStn w base v1 v2 v3 v4 s.marked) :
    Calls Try.prog 60 #[.agg #[.int .i64 s.ad, .int .i64 s.bo, .int .i64 s.st, .int .i64 s.s.g, .int .i64 s.s.o, .int .i64 s.s.b, .int .i64 s.s.h, .int .i64 s.t.g, .int .i64 s.t.o, .int .i64 s.t.b, .int .i64 s.t.h, .int .i64 s.qu, .int .i64 s.tr, .int .i64 s.he, .int .i64 s.po, v1, v2, v3, v4], .int .i64 1] w fun e w' => e = .returned (.int .i64 (1 + s.cnt)) ∧ Below w.heap.size w w' := by
  obtain ⟨l1, h1, l2, h2, l3, h3, l4, h4, _, _, o1, o2, o3, o4, _⟩ := h.all
  obtain ⟨p1, c1, e1⟩ := o1.1.shape
  obtain ⟨p2, c2, e2⟩ := o2.1.shape
  obtain ⟨p3, c3, e3⟩ := o3.g.shape
  obtain ⟨p4, c4, e4⟩ := o4.1.shape
  rw [show s.marked.kn.length = s.kn.length from countK_length _ _] at e1
  rw [show s.marked.ws.length = s.ws.length from countK_length _ _] at e2
  rw [show s.marked.gs.length = s.gs.length from markG_length _ _] at e3
  rw [show s.marked.os.length = s.os.length from marksK_length _ _] at e4
  subst e1; subst e2; subst e3; subst e4
  clear h
  have hA := all_alloc w (.cells #[.int .i64 s.ad, .int .i64 s.bo, .int .i64 s.st, .int .i64 s.s.g, .int .i64 s.s.o, .int .i64 s.s.b, .int .i64 s.s.h, .int .i64 s.t.g, .int .i64 s.t.o, .int .i64 s.t.b, .int .i64 s.t.h, .int .i64 s.qu, .int .i64 s.tr, .int .i64 s.he, .int .i64 s.po, .slice p1 s.kn.length c1, .slice p2 s.ws.length c2, .slice p3 s.gs.length c3, .slice p4 s.os.length c4] 34)
  have hX : Hid _ := heap_alloc_new w (.cells #[.int .i64 s.ad, .int .i64 s.bo, .int .i64 s.st, .int .i64 s.s.g, .int .i64 s.s.o, .int .i64 s.s.b, .int .i64 s.s.h, .int .i64 s.t.g, .int .i64 s.t.o, .int .i64 s.t.b, .int .i64 s.t.h, .int .i64 s.qu, .int .i64 s.tr, .int .i64 s.he, .int .i64 s.po, .slice p1 s.kn.length c1, .slice p2 s.ws.length c2, .slice p3 s.gs.length c3, .slice p4 s.os.length c4] 34)
  unfold Stn.cnt at hl ⊢
  have k3 : (s.gs.length : Int) + (wsum s.gs : Int) ≤ 1048576 := by omega
  have H1 : Hid (∀ W, Below w.heap.size w W → Calls Try.prog 31 #[.slice p1 s.kn.length c1, .int .i64 1] W fun e w' => e = .returned (.int .i64 (1 + (s.kn.length : Int))) ∧ Below W.heap.size W w') := fun W hW => heldInt64S_from 1 (by omega) l1 _ s.kn.length W (by omega) (o1.1.below hW)
  have H2 : Hid (∀ W, Below w.heap.size w W → Calls Try.prog 31 #[.slice p2 s.ws.length c2, .int .i64 (1 + (s.kn.length : Int))] W fun e w' => e = .returned (.int .i64 (1 + (s.kn.length : Int) + (s.ws.length : Int))) ∧ Below W.heap.size W w') := fun W hW => heldInt64S_from (1 + (s.kn.length : Int)) (by omega) l2 _ s.ws.length W (by omega) (o2.1.below hW)
  have H3 : Hid (∀ W, Below w.heap.size w W → Calls Try.prog 80 #[.slice p3 s.gs.length c3, .int .i64 (1 + (s.kn.length : Int) + (s.ws.length : Int))] W fun e w' => e = .returned (.int .i64 (1 + (s.kn.length : Int) + (s.ws.length : Int) + ((s.gs.length : Int) + (wsum s.gs : Int)))) ∧ Below W.heap.size W w') := fun W hW => heldGlobS_any (1 + (s.kn.length : Int) + (s.ws.length : Int)) (by omega) l3 _ s.gs W k3 (o3.g.below hW)
  have H4 : Hid (∀ W, Below w.heap.size w W → Calls Try.prog 81 #[.slice p4 s.os.length c4, .int .i64 (1 + (s.kn.length : Int) + (s.ws.length : Int) + ((s.gs.length : Int) + (wsum s.gs : Int)))] W fun e w' => e = .returned (.int .i64 (1 + (s.kn.length : Int) + (s.ws.length : Int) + ((s.gs.length : Int) + (wsum s.gs : Int)) + (s.os.length : Int))) ∧ Below W.heap.size W w') := fun W hW => by
    have := heldStringS_from (1 + s.kn.length + s.ws.length + (s.gs.length + wsum s.gs)) (by omega) l4 _ s.os.length W (by omega) (o4.1.below hW)
    rwa [show ((1 + s.kn.length + s.ws.length + (s.gs.length + wsum s.gs) : Nat) : Int) = 1 + (s.kn.length : Int) + (s.ws.length : Int) + ((s.gs.length : Int) + (wsum s.gs : Int)) by omega] at this
  clear o1 o2 o3 o4 k3
  have hE : Hid ((1 : Int) + ((s.kn.length : Int) + (s.ws.length : Int) + ((s.gs.length : Int) + (wsum s.gs : Int)) + (s.os.length : Int)) = 1 + (s.kn.length : Int) + (s.ws.length : Int) + ((s.gs.length : Int) + (wsum s.gs : Int)) + (s.os.length : Int)) := (by omega : _ = _)
  have n1 : ¬ (1 : Int) + (s.kn.length : Int) < 0 := by omega
  have n2 : ¬ (1 : Int) + (s.kn.length : Int) + (s.ws.length : Int) < 0 := by omega
  have n3 : ¬ (1 : Int) + (s.kn.length : Int) + (s.ws.length : Int) + ((s.gs.length : Int) + (wsum s.gs : Int)) < 0 := by omega
  have n4 : ¬ (1 : Int) + (s.kn.length : Int) + (s.ws.length : Int) + ((s.gs.length : Int) + (wsum s.gs : Int)) + (s.os.length : Int) < 0 := by omega
  go_enter Try.func60, Try.ntmps60
  go_upto_region 1 with fail
  generalize w.alloc (.cells #[.int .i64 s.ad, .int .i64 s.bo, .int .i64 s.st, .int .i64 s.s.g, .int .i64 s.s.o, .int .i64 s.s.b, .int .i64 s.s.h, .int .i64 s.t.g, .int .i64 s.t.o, .int .i64 s.t.b, .int .i64 s.t.h, .int .i64 s.qu, .int .i64 s.tr, .int .i64 s.he, .int .i64 s.po, .slice p1 s.kn.length c1, .slice p2 s.ws.length c2, .slice p3 s.gs.length c3, .slice p4 s.os.length c4] 34) = A at hA hX ⊢
  have x15 := cellW hX.out 15 _ rfl A (Below.refl _ _)
  go_wp2_with (first
    | (have _ := hD1; go_at_call 31; refine (H2.out _ (keepB hA (Nat.le_refl _) s1)).mono ?_; rintro e A2 ⟨rfl, hb2⟩; have s2 := keepB s1 (Nat.le_refl _) hb2; have x17 := cellW hX.out 17 _ rfl A2 s2)
    | (go_at_call 31; refine (H1.out _ hA).mono ?_; rintro e A1 ⟨rfl, hb1⟩; have s1 : Below A.heap.size A A1 := hb1; have hD1 : Hid True := trivial; have x16 := cellW hX.out 16 _ rfl A1 s1)
    | (go_at_call 80; refine (H3.out _ (keepB hA (Nat.le_refl _) s2)).mono ?_; rintro e A3 ⟨rfl, hb3⟩; have s3 := keepB s2 (Nat.le_refl _) hb3; have x18 := cellW hX.out 18 _ rfl A3 s3)
    | (go_at_call 81; refine (H4.out _ (keepB hA (Nat.le_refl _) s3)).mono ?_; rintro e A4 ⟨rfl, hb4⟩; have s4 := keepB s3 (Nat.le_refl _) hb4))
  go_ret
  exact ⟨by rw [hE.out]; rfl, keepB hA (Nat.le_refl _) s4⟩
end Go.Proofs.Ytancfnpmbddfoaa
