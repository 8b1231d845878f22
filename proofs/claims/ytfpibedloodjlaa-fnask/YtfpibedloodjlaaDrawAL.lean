/- THE DRAWS that the law takes: a question, and bytes of one. -/
import Derived.Test.YtfpibedloodjlaaDrawAk
import Derived.Test.YtfpibedloodjlaaAskE
import Derived.Deep.RegionWith
namespace Go.Proofs.Ytfpibedloodjlaa
open Go.RowKit
set_option linter.unusedVariables false
set_option linter.unusedSimpArgs false

theorem source_DQ (B : Nat) (a : Option Addr) (len cap : Nat) (w : World) (hr : Rb B w a len) (hB : B ≤ w.heap.size) (b : Nat) (hb : w.heap.size = b) :
    Calls Try.prog 32 #[.slice a len cap] w fun e w' => e = .returned (.pointer (some ⟨b, 0, none⟩)) ∧ Dr b B a len cap w' w' ∧ Below b w w' := by
  subst hb; exact source_D B a len cap w hr hB
/-- a question was drawn -/
def QDB (w : World) (x : Ending) (w' : World) : Prop := ∃ (y : Ak) (p : Option Addr) (c g : Nat), x = .returned (.agg #[.int .i64 y.c, .int .i64 y.a, .int .i64 y.m, .slice p y.vs.length c]) ∧ OwnI w' g (.slice p y.vs.length c) y.vs ∧ w.heap.size ≤ g ∧ y.vs.length ≤ 30 ∧ Below w.heap.size w w'
set_option maxRecDepth 100000 in
set_option maxHeartbeats 1600000 in
theorem drawAskBytes_any (B : Nat) (a : Option Addr) (len cap : Nat) (w : World) (hr : Rb B w a len) (hB : B ≤ w.heap.size) :
    Calls Try.prog 8 #[.slice a len cap] w (QDB w) := by
  have HR : Hid _ := Rb_blw hr ((Below.refl B w).alloc hB (.cells #[.int .i64 0, .int .i64 0, .int .i64 0, .slice none 0 0] 25))
  have hB1 : B ≤ (w.alloc (.cells #[.int .i64 0, .int .i64 0, .int .i64 0, .slice none 0 0] 25)).heap.size := by simp; omega
  have hP0 : Hid _ := heap_alloc_new w (.cells #[.int .i64 0, .int .i64 0, .int .i64 0, .slice none 0 0] 25)
  clear hr
  go_enter Try.func8, Try.ntmps8
  go_wp2_with (first
    | (go_at_call 32; refine (source_DQ B a len cap _ HR.out hB1 (w.heap.size + 1) (by simp)).mono ?_; rintro e w1 ⟨rfl, hD1, hb1⟩; have hP1 : Hid (w1.heap[w.heap.size]? = some (.cells #[.int .i64 0, .int .i64 0, .int .i64 0, .slice none 0 0] 25 (0, 0))) := (hb1.block w.heap.size (by omega)).trans hP0.out)
    | (go_at_call 33; refine (l04Ask_D hD1).mono ?_; rintro x w2 ⟨y, p, c, g, rfl, hO, hg, hn, hD2⟩; have hP2 : Hid _ := (hD2.grb.block w.heap.size (Array.getElem?_eq_some_iff.1 hP1.out).1 (by omega)).trans hP1.out; have z0 := cellW hP2.out 0 _ rfl w2 (Below.refl _ _); have z1 := cellW hP2.out 1 _ rfl w2 (Below.refl _ _); have z2 := cellW hP2.out 2 _ rfl w2 (Below.refl _ _); have z3 := cellW hP2.out 3 _ rfl w2 (Below.refl _ _); have zf0 := frozenW hP2.out 0 w2 (Below.refl _ _); have zf1 := frozenW hP2.out 1 w2 (Below.refl _ _); have zf2 := frozenW hP2.out 2 w2 (Below.refl _ _); have zf3 := frozenW hP2.out 3 w2 (Below.refl _ _)))
  have hbA : Below w.heap.size w w1 := (((Below.refl w.heap.size w).alloc (Nat.le_refl _) _).trans (hb1.mono (by omega)))
  have hbB : Below w.heap.size w w2 := hbA.trans (hD2.grb.below (by omega) hbA.size)
  have hlt1 : w.heap.size < w1.heap.size := (Array.getElem?_eq_some_iff.1 hP1.out).1
  exact bodyPost_ret (v := .agg #[.int .i64 y.c, .int .i64 y.a, .int .i64 y.m, .slice p y.vs.length c]) (by simp [results, Try.results8, go_sem, z0, z1, z2, z3]) rfl ⟨y, p, c, g, rfl, OwnI.farQ (OwnI.farQ (OwnI.farQ (OwnI.farQ hO (by simp only; omega) _) (by simp only; omega) _) (by simp only; omega) _) (by simp only; omega) _, by omega, hn, (Below.setCell (Below.setCell (Below.setCell (Below.setCell hbB (by simp only; omega) _) (by simp only; omega) _) (by simp only; omega) _) (by simp only; omega) _)⟩
theorem askB_max (q : Ak) : (askB q).size ≤ 50 := by
  cases h : q.right with
  | false => rw [askB_size q h]; decide
  | true =>
    rw [← askB_join h, ByteArray.size_append, ByteArray.size_append]
    have := tail_size h
    have e1 : (oneB q.c).size = 1 := rfl
    have e2 : (twoB q.a).size = 2 := rfl
    omega
set_option maxRecDepth 100000 in
set_option maxHeartbeats 1600000 in
theorem drawAskRead_any (B : Nat) (a : Option Addr) (len cap : Nat) (w : World) (hr : Rb B w a len) (hB : B ≤ w.heap.size) :
    Calls Try.prog 10 #[.slice a len cap] w fun e w' => ∃ u : ByteArray, e = .returned (.string u) ∧ u.size ≤ 300 ∧ Below w.heap.size w w' := by
  go_enter Try.func10, Try.ntmps10
  go_upto_region 4 with (first
    | (go_at_call 32; refine (source_D B a len cap _ hr hB).mono ?_; rintro e w1 ⟨rfl, hD1, hb1⟩)
    | (go_at_call 33; refine (l04Ask_D hD1).mono ?_; rintro x w2 ⟨y, p, c, g, rfl, hO, hg, hn, hD2⟩)
    | (go_at_call 15; refine (specAskBytes_any y p c _ (by omega) hO.row).mono ?_; rintro x w3 ⟨rfl, hb3⟩; have hD3 := hD2.below hb3; have hz3 := askB_max y)
    | (go_at_call 39; refine (n_D hD3 4 (by omega)).mono ?_; rintro e w4 ⟨r4, rfl, hr4, hD4, _⟩; have hs4 : r4 < 4 := (by omega)))
  generalize askB y = t at hz3 ⊢
  have HD4 : Hid _ := hD4
  have HB1 : Hid _ := hb1
  clear hD1 hb1 hO hD2 hb3 hD3 hD4 hr4
  by_cases k0 : r4 = 0
  · subst k0
    go_wp2_with (go_at_call 40; refine (spoil_D HD4.out t (by omega)).mono ?_; rintro e w5 ⟨s5, rfl, hs5, hD5⟩)
    go_ret
    exact ⟨s5, rfl, by omega, hD5.end HB1.out⟩
  have t0 : ((r4 : Int) == 0) = false := by simp; omega
  by_cases k1 : r4 = 1
  · subst k1
    go_wp2_with (go_at_call 39; refine (n_D HD4.out ((t.size : Int) + 1) (by omega)).mono ?_; rintro e w5 ⟨r5, rfl, hr5, hD5, _⟩; have hs5 : r5 ≤ t.size := (by omega); obtain ⟨P1, z1, s1⟩ := slice_toD t r5 hs5)
    go_ret
    exact ⟨P1, rfl, by omega, hD5.end HB1.out⟩
  have t1 : ((r4 : Int) == 1) = false := by simp; omega
  go_wp2
  go_ret
  exact ⟨t, rfl, by omega, HD4.out.end HB1.out⟩
end Go.Proofs.Ytfpibedloodjlaa
