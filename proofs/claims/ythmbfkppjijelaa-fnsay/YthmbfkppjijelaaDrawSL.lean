/- THE DRAWS that the law takes: something said, its bytes, two stamps. -/
import Derived.Test.YthmbfkppjijelaaDrawSay
import Derived.Test.YthmbfkppjijelaaSayC
import Derived.Deep.DeepCutAuto
import Derived.Deep.RegionWith
namespace Go.Proofs.Ythmbfkppjijelaa
open Go.RowKit
set_option linter.unusedVariables false
set_option linter.unusedSimpArgs false

theorem source_D' (B : Nat) (a : Option Addr) (len cap : Nat) (w : World) (hr : Rb B w a len) (hB : B ≤ w.heap.size) (b : Nat) (hb : w.heap.size = b) :
    Calls Try.prog 27 #[.slice a len cap] w fun e w' => e = .returned (.pointer (some ⟨b, 0, none⟩)) ∧ Dr b B a len cap w' w' ∧ Below b w w' := by
  subst hb; exact source_D B a len cap w hr hB
/-- something was drawn that may be said -/
def QSB (w : World) (x : Ending) (w' : World) : Prop := ∃ (y : Sy) (p : Option Addr) (c g : Nat), x = .returned (.agg #[.int .i64 y.k, .int .i64 y.f, .int .i64 y.t, .int .i64 y.s.g, .int .i64 y.s.o, .int .i64 y.s.b, .int .i64 y.s.h, .slice p y.ws.length c, .string y.b]) ∧ OwnI w' g (.slice p y.ws.length c) y.ws ∧ w.heap.size ≤ g ∧ y.ws.length ≤ 10 ∧ y.b.size ≤ 30 ∧ Below w.heap.size w w'
set_option maxRecDepth 100000 in
set_option maxHeartbeats 1600000 in
theorem drawSayBytes_any (B : Nat) (a : Option Addr) (len cap : Nat) (w : World) (hr : Rb B w a len) (hB : B ≤ w.heap.size) :
    Calls Try.prog 7 #[.slice a len cap] w (QSB w) := by
  have HR : Hid _ := Rb_blw hr ((Below.refl B w).alloc hB (.cells #[.int .i64 0, .int .i64 0, .int .i64 0, .int .i64 0, .int .i64 0, .int .i64 0, .int .i64 0, .slice none 0 0, .string ⟨#[]⟩] 27))
  have hB1 : B ≤ (w.alloc (.cells #[.int .i64 0, .int .i64 0, .int .i64 0, .int .i64 0, .int .i64 0, .int .i64 0, .int .i64 0, .slice none 0 0, .string ⟨#[]⟩] 27)).heap.size := by simp; omega
  clear hr
  go_enter Try.func7, Try.ntmps7
  go_wp2_with (first
    | (go_at_call 27; refine (source_D' B a len cap _ HR.out hB1 (w.heap.size + 1) (by simp)).mono ?_; rintro e w1 ⟨rfl, hD1, hb1⟩)
    | (go_at_call 28; refine (l03Say_D hD1).mono ?_; rintro x w2 ⟨y, p, c, g, rfl, hO, hg, hn, hbz, hD2⟩; have hz1 := hb1.size; simp at hz1; have hz2 := hD2.size; have hP2 : w2.heap[w.heap.size]? = some (.cells #[.int .i64 0, .int .i64 0, .int .i64 0, .int .i64 0, .int .i64 0, .int .i64 0, .int .i64 0, .slice none 0 0, .string ⟨#[]⟩] 27 (0, 0)) := (by rw [hD2.grb.block w.heap.size (by omega) (by omega), hb1.block w.heap.size (by omega), heap_alloc_new]); have HO : Hid (OwnI w2 g (.slice p y.ws.length c) y.ws) := hO; have k0 := cellW hP2 0 _ rfl w2 (Below.refl _ _); have k1 := cellW hP2 1 _ rfl w2 (Below.refl _ _); have k2 := cellW hP2 2 _ rfl w2 (Below.refl _ _); have k3 := cellW hP2 3 _ rfl w2 (Below.refl _ _); have k4 := cellW hP2 4 _ rfl w2 (Below.refl _ _); have k5 := cellW hP2 5 _ rfl w2 (Below.refl _ _); have k6 := cellW hP2 6 _ rfl w2 (Below.refl _ _); have k7 := cellW hP2 7 _ rfl w2 (Below.refl _ _); have k8 := cellW hP2 8 _ rfl w2 (Below.refl _ _); have kf := fun i => frozenW hP2 i w2 (Below.refl _ _)))
  have hbA : Below w.heap.size w w1 := (((Below.refl w.heap.size w).alloc (Nat.le_refl _) _).trans (hb1.mono (by omega)))
  have hbB : Below w.heap.size w w2 := hbA.trans (hD2.grb.below (by omega) hbA.size)
  exact bodyPost_ret (v := .agg #[.int .i64 y.k, .int .i64 y.f, .int .i64 y.t, .int .i64 y.s.g, .int .i64 y.s.o, .int .i64 y.s.b, .int .i64 y.s.h, .slice p y.ws.length c, .string y.b]) (by simp [results, Try.results7, go_sem, k0, k1, k2, k3, k4, k5, k6, k7, k8]) rfl ⟨y, p, c, g, rfl, HO.out.keptH (fun j h1 h2 => by
    have hne : j ≠ w.heap.size := by have := hbA.size; omega
    repeat (rw [Below.heap_setCell _ _ _ _ hne])), by have := hbA.size; omega, hn, hbz, by
    repeat (refine Below.setCell ?_ (by simp) _)
    exact hbB⟩
set_option maxRecDepth 100000 in
set_option maxHeartbeats 1600000 in
theorem drawSayRead_any (B : Nat) (a : Option Addr) (len cap : Nat) (w : World) (hr : Rb B w a len) (hB : B ≤ w.heap.size) :
    Calls Try.prog 9 #[.slice a len cap] w fun e w' => ∃ u : ByteArray, e = .returned (.string u) ∧ u.size ≤ 300 ∧ Below w.heap.size w w' := by
  go_enter Try.func9, Try.ntmps9
  go_upto_region 4 with (first
    | (go_at_call 27; refine (source_D B a len cap _ hr hB).mono ?_; rintro e w1 ⟨rfl, hD1, hb1⟩)
    | (go_at_call 28; refine (l03Say_D hD1).mono ?_; rintro x w2 ⟨y, p, c, g, rfl, hO, hg, hn, hbz, hD2⟩)
    | (go_at_call 12; refine (specSayBytes_any y p c _ (by unfold maxLen; omega) (by omega) hO.row).mono ?_; rintro x w3 ⟨rfl, hb3⟩; have hD3 := hD2.below hb3; have hz3 := @sayB_size y)
    | (go_at_call 34; refine (n_D hD3 4 (by omega)).mono ?_; rintro e w4 ⟨r4, rfl, hr4, hD4, _⟩; have hs4 : r4 < 4 := (by omega)))
  generalize sayB y = t at hz3 ⊢
  have HD4 : Hid _ := hD4
  have HB1 : Hid _ := hb1
  clear hD1 hb1 hO hD2 hb3 hD3 hD4 hr4
  by_cases k0 : r4 = 0
  · subst k0
    go_wp2_with (go_at_call 35; refine (spoil_D HD4.out t (by omega)).mono ?_; rintro e w5 ⟨s5, rfl, hs5, hD5⟩)
    go_ret
    exact ⟨s5, rfl, by omega, hD5.end HB1.out⟩
  have t0 : ((r4 : Int) == 0) = false := by simp; omega
  by_cases k1 : r4 = 1
  · subst k1
    go_wp2_with (go_at_call 34; refine (n_D HD4.out ((t.size : Int) + 1) (by omega)).mono ?_; rintro e w5 ⟨r5, rfl, hr5, hD5, _⟩; have hs5 : r5 ≤ t.size := (by omega); obtain ⟨P1, z1, s1⟩ := slice_toD t r5 hs5)
    go_ret
    exact ⟨P1, rfl, by omega, hD5.end HB1.out⟩
  have t1 : ((r4 : Int) == 1) = false := by simp; omega
  go_wp2
  go_ret
  exact ⟨t, rfl, by omega, HD4.out.end HB1.out⟩
/-- two stamps were drawn -/
def QSL (w : World) (x : Ending) (w' : World) : Prop := ∃ s t : St, x = .returned (.tuple #[.agg #[.int .i64 s.g, .int .i64 s.o, .int .i64 s.b, .int .i64 s.h], .agg #[.int .i64 t.g, .int .i64 t.o, .int .i64 t.b, .int .i64 t.h]]) ∧ Below w.heap.size w w'
theorem QSL.mk {w w' : World} {s t : St} (h : Below w.heap.size w w') : QSL w (.returned (.tuple #[.agg #[.int .i64 s.g, .int .i64 s.o, .int .i64 s.b, .int .i64 s.h], .agg #[.int .i64 t.g, .int .i64 t.o, .int .i64 t.b, .int .i64 t.h]])) w' := ⟨s, t, rfl, h⟩
/-- two answers' places, a stamp, the draw's source -/
structure LV (b B : Nat) (a : Option Addr) (len cap : Nat) (w : World) (V : Nat) (s : St) (W : World) : Prop where
  dr : Dr b B a len cap W W
  boxP : W.heap[w.heap.size]? = some (.cells #[.int .i64 0, .int .i64 0, .int .i64 0, .int .i64 0] 24 (0, 0))
  boxQ : W.heap[w.heap.size + 1]? = some (.cells #[.int .i64 0, .int .i64 0, .int .i64 0, .int .i64 0] 24 (0, 0))
  boxV : W.heap[V]? = some (.cells #[.int .i64 s.g, .int .i64 s.o, .int .i64 s.b, .int .i64 s.h] 24 (0, 0))
  bel : Below w.heap.size w W
  hb : b = w.heap.size + 2
  hV : b < V
theorem LV.grb {b B : Nat} {a : Option Addr} {len cap : Nat} {w : World} {V : Nat} {s : St} {W W' : World} (k : LV b B a len cap w V s W) (hd : Dr b B a len cap W W') : LV b B a len cap w V s W' :=
  have h1 := k.hb
  have h2 := k.hV
  ⟨hd.base, (hd.grb.block _ (Array.getElem?_eq_some_iff.1 k.boxP).1 (by omega)).trans k.boxP, (hd.grb.block _ (Array.getElem?_eq_some_iff.1 k.boxQ).1 (by omega)).trans k.boxQ, (hd.grb.block _ (Array.getElem?_eq_some_iff.1 k.boxV).1 (by omega)).trans k.boxV, k.bel.trans (hd.grb.below (by omega) k.bel.size), h1, h2⟩
theorem LV.below {b B : Nat} {a : Option Addr} {len cap : Nat} {w : World} {V : Nat} {s : St} {W W' : World} (k : LV b B a len cap w V s W) (hb : Below W.heap.size W W') : LV b B a len cap w V s W' := k.grb (k.dr.below hb)
set_option maxRecDepth 100000 in
set_option maxHeartbeats 1600000 in
theorem drawStampLess_any (B : Nat) (a : Option Addr) (len cap : Nat) (w : World) (hr : Rb B w a len) (hB : B ≤ w.heap.size) :
    Calls Try.prog 11 #[.slice a len cap] w (QSL w) := by
  have hA : Below w.heap.size w ((w.alloc (.cells #[.int .i64 0, .int .i64 0, .int .i64 0, .int .i64 0] 24)).alloc (.cells #[.int .i64 0, .int .i64 0, .int .i64 0, .int .i64 0] 24)) := ((Below.refl w.heap.size w).alloc (Nat.le_refl _) _).alloc (by simp) _
  have HR : Hid _ := Rb_blw hr (hA.mono hB)
  have hP0 : Hid (((w.alloc (.cells #[.int .i64 0, .int .i64 0, .int .i64 0, .int .i64 0] 24)).alloc (.cells #[.int .i64 0, .int .i64 0, .int .i64 0, .int .i64 0] 24)).heap[w.heap.size]? = some (.cells #[.int .i64 0, .int .i64 0, .int .i64 0, .int .i64 0] 24 (0, 0))) := show _ = _ by rw [heap_alloc_old _ _ (by simp), heap_alloc_new]
  have hQ0 : Hid (((w.alloc (.cells #[.int .i64 0, .int .i64 0, .int .i64 0, .int .i64 0] 24)).alloc (.cells #[.int .i64 0, .int .i64 0, .int .i64 0, .int .i64 0] 24)).heap[w.heap.size + 1]? = some (.cells #[.int .i64 0, .int .i64 0, .int .i64 0, .int .i64 0] 24 (0, 0))) := show _ = _ by
    have := heap_alloc_new (w.alloc (.cells #[.int .i64 0, .int .i64 0, .int .i64 0, .int .i64 0] 24)) (.cells #[.int .i64 0, .int .i64 0, .int .i64 0, .int .i64 0] 24)
    rw [show (w.alloc (.cells #[.int .i64 0, .int .i64 0, .int .i64 0, .int .i64 0] 24)).heap.size = w.heap.size + 1 by simp] at this
    exact this
  have hB1 : B ≤ ((w.alloc (.cells #[.int .i64 0, .int .i64 0, .int .i64 0, .int .i64 0] 24)).alloc (.cells #[.int .i64 0, .int .i64 0, .int .i64 0, .int .i64 0] 24)).heap.size := by simp; omega
  clear hr
  go_enter Try.func11, Try.ntmps11
  go_upto_region 3 with (first
    | (go_at_call 27; refine (source_D' B a len cap _ HR.out hB1 (w.heap.size + 2) (by simp)).mono ?_; rintro e w1 ⟨rfl, hD1, hb1⟩)
    | (go_at_call 37; refine (l03Stamp_D hD1).mono ?_; rintro e w2 ⟨s, rfl, hD2⟩))
  have HL : Hid (LV (w.heap.size + 2) B a len cap w w2.heap.size s (w2.alloc (.cells #[.int .i64 s.g, .int .i64 s.o, .int .i64 s.b, .int .i64 s.h] 24))) := by
    have hz1 := hb1.size
    simp at hz1
    have hz2 := hD2.size
    refine ⟨(hD2.alloc _).base, ?_, ?_, heap_alloc_new _ _, ?_, rfl, hD2.lt⟩
    · rw [heap_alloc_old _ _ (by omega), hD2.grb.block _ (by omega) (by omega), hb1.block _ (by omega)]; exact hP0.out
    · rw [heap_alloc_old _ _ (by omega), hD2.grb.block _ (by omega) (by omega), hb1.block _ (by omega)]; exact hQ0.out
    · have h1 : Below w.heap.size w w1 := hA.trans (hb1.mono (by omega))
      exact (h1.trans (hD2.grb.below (by omega) h1.size)).alloc (by omega) _
  generalize w2.alloc (.cells #[.int .i64 s.g, .int .i64 s.o, .int .i64 s.b, .int .i64 s.h] 24) = X at HL ⊢
  generalize w2.heap.size = V at HL ⊢
  clear hD2 hb1 hD1 hP0 hQ0 HR hA hB1
  go_upto_if 11 with (go_at_call 38; refine (one_D HL.out.dr 6 (by omega)).mono ?_; rintro e w3 ⟨o3, rfl, hD3, _⟩; have HM : Hid _ := HL.out.grb hD3)
  clear HL hD3
  have q1 := HM.out.hb
  have q2 := HM.out.hV
  have q3 : ¬ w.heap.size = V := by omega
  have q4 : ¬ w.heap.size + 1 = V := by omega
  have q5 : ¬ V = w.heap.size := by omega
  have q6 : ¬ V = w.heap.size + 1 := by omega
  cases o3 with
  | true =>
    have c0 := cellW HM.out.boxV 0 _ rfl w3 (Below.refl _ _)
    have c1 := cellW HM.out.boxV 1 _ rfl w3 (Below.refl _ _)
    have c2 := cellW HM.out.boxV 2 _ rfl w3 (Below.refl _ _)
    have c3 := cellW HM.out.boxV 3 _ rfl w3 (Below.refl _ _)
    have k0 := cellW HM.out.boxP 0 _ rfl w3 (Below.refl _ _)
    have k1 := cellW HM.out.boxP 1 _ rfl w3 (Below.refl _ _)
    have k2 := cellW HM.out.boxP 2 _ rfl w3 (Below.refl _ _)
    have k3 := cellW HM.out.boxP 3 _ rfl w3 (Below.refl _ _)
    have m0 := cellW HM.out.boxQ 0 _ rfl w3 (Below.refl _ _)
    have m1 := cellW HM.out.boxQ 1 _ rfl w3 (Below.refl _ _)
    have m2 := cellW HM.out.boxQ 2 _ rfl w3 (Below.refl _ _)
    have m3 := cellW HM.out.boxQ 3 _ rfl w3 (Below.refl _ _)
    have kf := fun i => frozenW HM.out.boxP i w3 (Below.refl _ _)
    have mf := fun i => frozenW HM.out.boxQ i w3 (Below.refl _ _)
    go_wp2
    go_region
    go_wp2
    exact bodyPost_ret (v := .tuple #[.agg #[.int .i64 s.g, .int .i64 s.o, .int .i64 s.b, .int .i64 s.h], .agg #[.int .i64 s.g, .int .i64 s.o, .int .i64 s.b, .int .i64 s.h]]) (by simp [results, Try.results11, go_sem, k0, k1, k2, k3, m0, m1, m2, m3]) rfl (QSL.mk (Below.drew (by
      repeat (refine Below.setCell ?_ (by simp) _)
      exact HM.out.bel)))
  | false =>
    have a0 := cellW HM.out.boxV 0 _ rfl w3 (Below.refl _ _)
    have a1 := cellW HM.out.boxV 1 _ rfl w3 (Below.refl _ _)
    have a2 := cellW HM.out.boxV 2 _ rfl w3 (Below.refl _ _)
    have a3 := cellW HM.out.boxV 3 _ rfl w3 (Below.refl _ _)
    have HMd : Hid (∀ W, Below w3.heap.size w3 W → LV (w.heap.size + 2) B a len cap w V s W) := fun W h => HM.out.below h
    go_upto_region 5 with fail
    go_region_with ((go_at_call 37; refine (l03Stamp_D (HMd.out _ (by first | exact Below.refl _ _ | exact (Below.refl _ _).drew)).dr).mono ?_; rintro e4 w4 ⟨t, rfl, hD4⟩; have HN : Hid _ := (HMd.out _ (by first | exact Below.refl _ _ | exact (Below.refl _ _).drew)).grb hD4; have c0 := cellW HN.out.boxV 0 _ rfl w4 (Below.refl _ _); have c1 := cellW HN.out.boxV 1 _ rfl w4 (Below.refl _ _); have c2 := cellW HN.out.boxV 2 _ rfl w4 (Below.refl _ _); have c3 := cellW HN.out.boxV 3 _ rfl w4 (Below.refl _ _); have k0 := cellW HN.out.boxP 0 _ rfl w4 (Below.refl _ _); have k1 := cellW HN.out.boxP 1 _ rfl w4 (Below.refl _ _); have k2 := cellW HN.out.boxP 2 _ rfl w4 (Below.refl _ _); have k3 := cellW HN.out.boxP 3 _ rfl w4 (Below.refl _ _); have m0 := cellW HN.out.boxQ 0 _ rfl w4 (Below.refl _ _); have m1 := cellW HN.out.boxQ 1 _ rfl w4 (Below.refl _ _); have m2 := cellW HN.out.boxQ 2 _ rfl w4 (Below.refl _ _); have m3 := cellW HN.out.boxQ 3 _ rfl w4 (Below.refl _ _); have kf := fun i => frozenW HN.out.boxP i w4 (Below.refl _ _); have mf := fun i => frozenW HN.out.boxQ i w4 (Below.refl _ _)))
    all_goals
      go_wp2
      exact bodyPost_ret (v := .tuple #[.agg #[.int .i64 s.g, .int .i64 s.o, .int .i64 s.b, .int .i64 s.h], .agg #[.int .i64 t.g, .int .i64 t.o, .int .i64 t.b, .int .i64 t.h]]) (by simp [results, Try.results11, go_sem, k0, k1, k2, k3, m0, m1, m2, m3]) rfl (QSL.mk (by
        repeat (refine Below.setCell ?_ (by simp) _)
        exact HN.out.bel))
end Go.Proofs.Ythmbfkppjijelaa
