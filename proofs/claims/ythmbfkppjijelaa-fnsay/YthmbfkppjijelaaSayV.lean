/- THE WALKS of the model's reader: a number, or a text, where nothing was wrong so far. -/
import Derived.Test.YthmbfkppjijelaaGetT2N
import Derived.Test.YthmbfkppjijelaaPlainSay
import Derived.Test.YthmbfkppjijelaaInts
import Derived.Test.YthmbfkppjijelaaBox
import Derived.Deep.RegionHeld3
import Derived.Deep.DeepCutAuto
import Derived.Lib.SmallJoins
namespace Go.Proofs.Ythmbfkppjijelaa
open Go.RowKit
set_option linter.unusedVariables false
set_option linter.unusedSimpArgs false

def rdN (s : ByteArray) (a : Int) (bad : Bool) : Int × Int × Bool := if bad = false ∧ (getR s a).2.2 = 0 then ((getR s a).1, (getR s a).2.1, false) else (0, a, true)
def rdT (s : ByteArray) (a : Int) (bad : Bool) : ByteArray × Int × Bool := if bad = false ∧ (getT s a).2.2 = 0 then ((getT s a).1, (getT s a).2.1, false) else (ByteArray.empty, a, true)
theorem grown_of_set {w z : World} {g : Nat} (h : Below w.heap.size w z) (o : Nat) (v : Value) : w.grownBy (z.setCell ⟨g, o, none⟩ v) (some g) :=
  grown_setI ⟨h.os, h.tape, h.output, h.size, fun k hk _ => h.block k hk⟩ o v
set_option maxRecDepth 100000 in
set_option maxHeartbeats 1600000 in
theorem num_any (s : ByteArray) (a : Int) (bad : Bool) (g : Nat) (w : World) (hs : s.size ≤ 8000) (hg : w.heap[g]? = some (.cells #[.string s, .int .i64 a, .bool bad] 69 (0, 0))) :
    Calls Try.prog 47 #[.pointer (some ⟨g, 0, none⟩)] w fun e w' => e = .returned (.int .i64 (rdN s a bad).1) ∧ Hid (w'.heap[g]? = some (.cells #[.string s, .int .i64 (rdN s a bad).2.1, .bool (rdN s a bad).2.2] 69 (0, 0))) ∧ w.grownBy w' (some g) := by
  have HG : Hid (w.heap[g]? = some (.cells #[.string s, .int .i64 a, .bool bad] 69 (0, 0))) := hg
  have HC : Hid (∀ W : World, Calls Try.prog 71 #[.string s, .int .i64 a] W fun e w' => e = .returned (numV (getR s a)) ∧ Below W.heap.size W w') := fun W => specGetNum_any s a W (by unfold maxLen; omega)
  clear hg
  unfold rdN
  generalize getR s a = r at HC
  obtain ⟨n, q, c⟩ := r
  unfold numV at HC
  simp only at HC ⊢
  obtain ⟨R, hR⟩ : ∃ R : Int × Int × Bool, Hid ((if bad = false ∧ c = 0 then (n, q, false) else (0, a, true)) = R) := ⟨_, show _ = _ from rfl⟩
  rw [hR.out]
  have hgl := (Array.getElem?_eq_some_iff.1 HG.out).1
  go_enter Try.func47, Try.ntmps47
  go_upto_region 1 with fail
  go_cut [3] (fun s3 wx => ∃ h : Nat, s3 = .pointer (some ⟨h, 0, none⟩) ∧ Hid (wx.heap[h]? = some (.cells #[.int .i64 n, .int .i64 q, .int .i64 c] 93 (0, 0))) ∧ Below w.heap.size w wx)
  case first =>
    have hD : Below w.heap.size w w.drew := Below.drew (Below.refl _ _)
    have hDA : Below w.heap.size w (World.drew (w.alloc (.cells #[.int .i64 0, .int .i64 0, .int .i64 0] 93))) := Below.drew (all_alloc _ _)
    have x0 := cellW HG.out 0 _ rfl
    have x1 := cellW HG.out 1 _ rfl
    go_region_held3 (fun w' => Below w.heap.size w w') (first | with_reducible assumption | with_reducible exact Below.alloc hS9 hS9.size _ | with_reducible exact Below.setCell (Below.setCell (Below.setCell hS9 (Nat.le_refl _) _) (Nat.le_refl _) _) (Nat.le_refl _) _) (first
      | (go_at_call 71; refine (HC.out _).mono ?_; rintro e9 w9 ⟨rfl, hbq⟩; have hS9 : Below w.heap.size w w9 := keepB (by assumption) (Nat.le_refl _) hbq; obtain ⟨hc9, hf9⟩ := bcellF hbq))
    · go_wp2
      go_meet
      exact ⟨w9.heap.size, rfl, heap_alloc_new w9 _, Below.alloc hS9 hS9.size _⟩
    · have hZ : (w9.heap[w.heap.size]? = some (.cells #[.int .i64 0, .int .i64 0, .int .i64 0] 93 (0, 0))) := blk (Y := World.drew (w.alloc (.cells #[.int .i64 0, .int .i64 0, .int .i64 0] 93))) (heap_alloc_new w (.cells #[.int .i64 0, .int .i64 0, .int .i64 0] 93)) hbq
      have k0 := Joins.block_setCell (i := 0) hZ (Value.int .i64 n)
      have k1 := Joins.block_setCell (i := 1) k0 (Value.int .i64 q)
      have k2 := Joins.block_setCell (i := 2) k1 (Value.int .i64 c)
      go_wp2
      go_meet
      exact ⟨w.heap.size, rfl, k2, Below.setCell (Below.setCell (Below.setCell hS9 (Nat.le_refl _) _) (Nat.le_refl _) _) (Nat.le_refl _) _⟩
  case rest =>
    obtain ⟨h, rfl, hH, hzz⟩ := hcut
    rename World => z
    have hGz : Hid _ := blk HG.out hzz
    have x1 := cellW hGz.out 1 _ rfl z (Below.refl _ _)
    have x2 := cellW hGz.out 2 _ rfl z (Below.refl _ _)
    have f1 := frozenW hGz.out 1 z (Below.refl _ _)
    have f2 := frozenW hGz.out 2 z (Below.refl _ _)
    have y0 := cellW hH.out 0 _ rfl z (Below.refl _ _)
    have y1 := cellW hH.out 1 _ rfl z (Below.refl _ _)
    have y2 := cellW hH.out 2 _ rfl z (Below.refl _ _)
    have hgh : g ≠ h := by
      intro e
      subst e
      have h1 := hGz.out
      rw [hH.out] at h1
      cases h1
    by_cases hc : bad = false ∧ c = 0
    · obtain ⟨rfl, rfl⟩ := hc
      have e : R = (n, q, false) := by rw [← hR.out]; simp
      subst e
      clear hR
      go_wp2
      go_ret
      exact ⟨rfl, Joins.block_setCell (i := 1) hGz.out _, grown_of_set hzz 1 _⟩
    · have e : R = (0, a, true) := by rw [← hR.out, if_neg hc]
      subst e
      clear hR
      cases bad with
      | true =>
        go_wp2
        go_ret
        exact ⟨rfl, Joins.block_setCell (i := 2) hGz.out _, grown_of_set hzz 2 _⟩
      | false =>
        have hc' : (c != 0) = true := by simpa using hc
        clear hc
        go_wp2
        go_ret
        exact ⟨rfl, Joins.block_setCell (i := 2) hGz.out _, grown_of_set hzz 2 _⟩
set_option maxRecDepth 100000 in
set_option maxHeartbeats 1600000 in
theorem text_any (s : ByteArray) (a : Int) (bad : Bool) (g : Nat) (w : World) (hs : s.size ≤ 8000) (hg : w.heap[g]? = some (.cells #[.string s, .int .i64 a, .bool bad] 69 (0, 0))) :
    Calls Try.prog 49 #[.pointer (some ⟨g, 0, none⟩)] w fun e w' => e = .returned (.string (rdT s a bad).1) ∧ Hid (w'.heap[g]? = some (.cells #[.string s, .int .i64 (rdT s a bad).2.1, .bool (rdT s a bad).2.2] 69 (0, 0))) ∧ w.grownBy w' (some g) := by
  have HG : Hid (w.heap[g]? = some (.cells #[.string s, .int .i64 a, .bool bad] 69 (0, 0))) := hg
  have HC : Hid (∀ W : World, Calls Try.prog 72 #[.string s, .int .i64 a] W fun e w' => e = .returned (textV (getT s a)) ∧ Below W.heap.size W w') := fun W => specGetText_any s a W (by unfold maxLen; omega)
  clear hg
  unfold rdT
  generalize getT s a = r at HC
  obtain ⟨n, q, c⟩ := r
  unfold textV at HC
  simp only at HC ⊢
  obtain ⟨R, hR⟩ : ∃ R : ByteArray × Int × Bool, Hid ((if bad = false ∧ c = 0 then (n, q, false) else (ByteArray.empty, a, true)) = R) := ⟨_, show _ = _ from rfl⟩
  rw [hR.out]
  have hgl := (Array.getElem?_eq_some_iff.1 HG.out).1
  go_enter Try.func49, Try.ntmps49
  go_upto_region 1 with fail
  go_cut [3] (fun s3 wx => ∃ h : Nat, s3 = .pointer (some ⟨h, 0, none⟩) ∧ Hid (wx.heap[h]? = some (.cells #[.string n, .int .i64 q, .int .i64 c] 96 (0, 0))) ∧ Below w.heap.size w wx)
  case first =>
    have hD : Below w.heap.size w w.drew := Below.drew (Below.refl _ _)
    have hDA : Below w.heap.size w (World.drew (w.alloc (.cells #[.string ⟨#[]⟩, .int .i64 0, .int .i64 0] 96))) := Below.drew (all_alloc _ _)
    have x0 := cellW HG.out 0 _ rfl
    have x1 := cellW HG.out 1 _ rfl
    go_region_held3 (fun w' => Below w.heap.size w w') (first | with_reducible assumption | with_reducible exact Below.alloc hS9 hS9.size _ | with_reducible exact Below.setCell (Below.setCell (Below.setCell hS9 (Nat.le_refl _) _) (Nat.le_refl _) _) (Nat.le_refl _) _) (first
      | (go_at_call 72; refine (HC.out _).mono ?_; rintro e9 w9 ⟨rfl, hbq⟩; have hS9 : Below w.heap.size w w9 := keepB (by assumption) (Nat.le_refl _) hbq; obtain ⟨hc9, hf9⟩ := bcellF hbq))
    · go_wp2
      go_meet
      exact ⟨w9.heap.size, rfl, heap_alloc_new w9 _, Below.alloc hS9 hS9.size _⟩
    · have hZ : (w9.heap[w.heap.size]? = some (.cells #[.string ⟨#[]⟩, .int .i64 0, .int .i64 0] 96 (0, 0))) := blk (Y := World.drew (w.alloc (.cells #[.string ⟨#[]⟩, .int .i64 0, .int .i64 0] 96))) (heap_alloc_new w (.cells #[.string ⟨#[]⟩, .int .i64 0, .int .i64 0] 96)) hbq
      have k0 := Joins.block_setCell (i := 0) hZ (Value.string n)
      have k1 := Joins.block_setCell (i := 1) k0 (Value.int .i64 q)
      have k2 := Joins.block_setCell (i := 2) k1 (Value.int .i64 c)
      go_wp2
      go_meet
      exact ⟨w.heap.size, rfl, k2, Below.setCell (Below.setCell (Below.setCell hS9 (Nat.le_refl _) _) (Nat.le_refl _) _) (Nat.le_refl _) _⟩
  case rest =>
    obtain ⟨h, rfl, hH, hzz⟩ := hcut
    rename World => z
    have hGz : Hid _ := blk HG.out hzz
    have x1 := cellW hGz.out 1 _ rfl z (Below.refl _ _)
    have x2 := cellW hGz.out 2 _ rfl z (Below.refl _ _)
    have f1 := frozenW hGz.out 1 z (Below.refl _ _)
    have f2 := frozenW hGz.out 2 z (Below.refl _ _)
    have y0 := cellW hH.out 0 _ rfl z (Below.refl _ _)
    have y1 := cellW hH.out 1 _ rfl z (Below.refl _ _)
    have y2 := cellW hH.out 2 _ rfl z (Below.refl _ _)
    have hgh : g ≠ h := by
      intro e
      subst e
      have h1 := hGz.out
      rw [hH.out] at h1
      cases h1
    by_cases hc : bad = false ∧ c = 0
    · obtain ⟨rfl, rfl⟩ := hc
      have e : R = (n, q, false) := by rw [← hR.out]; simp
      subst e
      clear hR
      go_wp2
      go_ret
      exact ⟨rfl, Joins.block_setCell (i := 1) hGz.out _, grown_of_set hzz 1 _⟩
    · have e : R = (ByteArray.empty, a, true) := by rw [← hR.out, if_neg hc]
      subst e
      clear hR
      cases bad with
      | true =>
        go_wp2
        go_ret
        exact ⟨rfl, Joins.block_setCell (i := 2) hGz.out _, grown_of_set hzz 2 _⟩
      | false =>
        have hc' : (c != 0) = true := by simpa using hc
        clear hc
        go_wp2
        go_ret
        exact ⟨rfl, Joins.block_setCell (i := 2) hGz.out _, grown_of_set hzz 2 _⟩
end Go.Proofs.Ythmbfkppjijelaa
