/- THE WALKS of the draw of a wire and what it hears, and of the law's own questions of what is heard. -/
import Derived.Test.YtiaphaghjklhaaaDrawW
import Derived.Test.YtiaphaghjklhaaaFeedP
import Derived.WalkKit
import Derived.WalkSpells
import Derived.Outline
import Derived.Below
import Derived.Deep.RegionWith
import Derived.Deep.QuietTactic
import Derived.BigQuiet
import Derived.Deep.DeepCutAuto
namespace Go.Proofs.Ytiaphaghjklhaaa
open Go.RowKit
set_option linter.unusedVariables false
set_option linter.unusedSimpArgs false

set_option maxRecDepth 100000 in
set_option maxHeartbeats 800000 in
theorem lwTexts_same (b1 b2 : Nat) (v1 v2 : Value) (ss : List ByteArray) (w : World) (hl : ss.length ≤ 100000) (h1 : OwnS w b1 v1 ss) (h2 : OwnS w b2 v2 ss) :
    Calls Try.prog 30 #[v1, v2] w fun e w' => e = .returned (.bool true) ∧ Below w.heap.size w w' := by
  obtain ⟨p1, c1, rfl⟩ := h1.shape
  obtain ⟨p2, c2, rfl⟩ := h2.shape
  have e0 : ((ss.length : Int) != (ss.length : Int)) = false := by simp
  have H1 : Hid _ := fun W hW => (OwnS.below (w' := W) h1 hW).cell
  have H2 : Hid _ := fun W hW => (OwnS.below (w' := W) h2 hW).cell
  clear h1 h2
  go_enter Try.func30, Try.ntmps30
  go_wp2
  go_loopw [5] (fun i wr => ∃ k : Nat, k ≤ ss.length ∧ i = .int .i64 k ∧ Below w.heap.size w wr) (fun i _ => ss.length - (intOf i).toNat)
  case atStart => exact ⟨0, Nat.zero_le _, rfl, Below.refl _ _⟩
  case round =>
    obtain ⟨k, hk, rfl, hbel⟩ := hrel
    by_cases hlt : k < ss.length
    · obtain ⟨g1, rfl, _, _, q1, _⟩ := H1.out wr hbel k hlt
      obtain ⟨g2, rfl, _, _, q2, _⟩ := H2.out wr hbel k hlt
      have es : (ss[k].toList == ss[k].toList) = true := by simp
      go_wp2
      go_quiet (fail)
      go_wp2
      go_roundw
      case rel => exact ⟨k + 1, by omega, by go_num, hbel.trans ((Below.refl _ wr).trans ⟨rfl, rfl, rfl, Nat.le_refl _, fun _ _ => rfl⟩)⟩
      case measure => simp [intOf]; omega
    · go_wp2
      go_ret
      exact ⟨rfl, hbel⟩
theorem source_D' (B : Nat) (a : Option Addr) (len cap : Nat) (w : World) (hr : Rb B w a len) (hB : B ≤ w.heap.size) (b : Nat) (hb : w.heap.size = b) :
    Calls Try.prog 45 #[.slice a len cap] w fun e w' => e = .returned (.pointer (some ⟨b, 0, none⟩)) ∧ Dr b B a len cap w' w' ∧ Below b w w' := by
  subst hb; exact source_D B a len cap w hr hB
def PWF (w : World) (x : Ending) (w' : World) : Prop := ∃ (i e d : Bool) (s n : ByteArray), x = .returned (.tuple #[.agg #[.bool i, .bool e, .bool d, .string s], .string n]) ∧ s.size ≤ 64 ∧ n.size ≤ 600 ∧ Below w.heap.size w w'
theorem PWF.mk {w w' : World} {i e d : Bool} {s n : ByteArray} (h1 : s.size ≤ 64) (h2 : n.size ≤ 600) (h3 : Below w.heap.size w w') : PWF w (.returned (.tuple #[.agg #[.bool i, .bool e, .bool d, .string s], .string n])) w' := ⟨i, e, d, s, n, rfl, h1, h2, h3⟩
set_option maxRecDepth 100000 in
set_option maxHeartbeats 1600000 in
theorem drawWireFeed_any (B : Nat) (a : Option Addr) (len cap : Nat) (w : World) (hr : Rb B w a len) (hB : B ≤ w.heap.size) :
    Calls Try.prog 19 #[.slice a len cap] w (PWF w) := by
  have HR : Hid _ := Rb_blw hr ((Below.refl B w).alloc hB (.cells #[.bool false, .bool false, .bool false, .string ⟨#[]⟩] 35))
  have hB1 : B ≤ (w.alloc (.cells #[.bool false, .bool false, .bool false, .string ⟨#[]⟩] 35)).heap.size := by simp; omega
  clear hr
  go_enter Try.func19, Try.ntmps19
  go_upto_region 3 with (first
    | (go_at_call 45; refine (source_D' B a len cap _ HR.out hB1 (w.heap.size + 1) (by simp)).mono ?_; rintro e w1 ⟨rfl, hD1, hb1⟩)
    | (go_at_call 64; refine (l02Wire_D hD1).mono ?_; rintro x w2 ⟨i2, e2, d2, s2, rfl, hs2, hD2⟩))
  have hz1 := hb1.size
  simp at hz1
  have hz2 := hD2.size
  have hP2 : w2.heap[w.heap.size]? = some (.cells #[.bool false, .bool false, .bool false, .string ⟨#[]⟩] 35 (0, 0)) := by
    rw [hD2.grb.block w.heap.size (by omega) (by omega), hb1.block w.heap.size (by omega), heap_alloc_new]
  have hDA : Hid _ := hD2.alloc (.cells #[.bool i2, .bool e2, .bool d2, .string s2] 35)
  have hVA : Hid _ := heap_alloc_new w2 (.cells #[.bool i2, .bool e2, .bool d2, .string s2] 35)
  have hPA : Hid _ := (heap_alloc_old w2 (.cells #[.bool i2, .bool e2, .bool d2, .string s2] 35) (by omega)).trans hP2
  have hbA : Hid (Below w.heap.size w w1) := (((Below.refl w.heap.size w).alloc (Nat.le_refl _) _).trans (hb1.mono (by omega)))
  have hPV : w.heap.size < w2.heap.size := by omega
  have hbV : w.heap.size + 1 < w2.heap.size := hD2.lt
  have hzX : Hid (w2.heap.size < (w2.alloc (.cells #[.bool i2, .bool e2, .bool d2, .string s2] 35)).heap.size) := show _ < _ by simp
  generalize w2.alloc (.cells #[.bool i2, .bool e2, .bool d2, .string s2] 35) = X at hDA hVA hPA hzX ⊢
  generalize w2.heap.size = V at hVA hPV hbV hzX ⊢
  clear hP2 hD2 hz2 hz1 hb1 hD1
  obtain ⟨cv, cvf, _⟩ := cells_at hVA.out
  have c0 := cv 0 _ rfl
  have c1 := cv 1 _ rfl
  have c2 := cv 2 _ rfl
  have c3 := cv 3 _ rfl
  obtain ⟨cp, cpf, _⟩ := cells_at hPA.out
  have k0 := cp 0 _ rfl
  have k1 := cp 1 _ rfl
  have k2 := cp 2 _ rfl
  have k3 := cp 3 _ rfl
  clear cv cp
  have hV1 : w.heap.size + 1 < V := hbV
  have HDX : Hid (∀ W, Below X.heap.size X W → Dr (w.heap.size + 1) B a len cap X W) := fun W hW => hDA.out.base.below hW
  go_region_with ((go_at_call 65; refine (l02Noise_D (HDX.out _ (by first | exact Below.refl _ _ | exact (Below.refl _ _).drew))).mono ?_; rintro e3 w3 ⟨s3, rfl, hs3, hD3⟩; obtain ⟨dv, dvf, _⟩ := cells_at ((hD3.grb.block V hzX.out (by omega)).trans hVA.out); obtain ⟨dp, dpf, _⟩ := cells_at ((hD3.grb.block w.heap.size (by have := hzX.out; omega) (by omega)).trans hPA.out); have d0 := dv 0 _ rfl; have d1 := dv 1 _ rfl; have d2' := dv 2 _ rfl; have d3 := dv 3 _ rfl; have m0 := dp 0 _ rfl; have m1 := dp 1 _ rfl; have m2 := dp 2 _ rfl; have m3 := dp 3 _ rfl; clear dv dp))
  all_goals
    go_wp2
    exact bodyPost_ret (v := .tuple #[.agg #[.bool i2, .bool e2, .bool d2, .string s2], .string s3]) (by simp [results, Try.results19, go_sem, m0, m1, m2, m3]) rfl (PWF.mk hs2 hs3 (by
      repeat (refine Below.setCell ?_ (by simp) _)
      exact hbA.out.trans ((hDA.out.grb.trans hD3.grb).below (by omega) hbA.out.size)))
set_option maxRecDepth 100000 in
set_option maxHeartbeats 1600000 in
theorem lwWire_same (i e d : Bool) (b : ByteArray) (c : Int) (hb : b.size ≤ maxLen) (hc : c = 0 → rightB i e d b = true) (b1 b2 : Nat) (v1 v2 : Value) (ss : List ByteArray) (w : World) (hl : ss.length ≤ 10000) (h1 : OwnS w b1 v1 ss) (h2 : OwnS w b2 v2 ss) :
    Calls Try.prog 24 #[.agg #[.bool i, .bool e, .bool d, .string b, v1, .int .i64 c], .agg #[.bool i, .bool e, .bool d, .string b, v2, .int .i64 c]] w fun x w' => x = .returned (.bool true) ∧ Below w.heap.size w w' := by
  have e3 : (c == c) = true := by simp
  have HS : Hid (∀ W, Below w.heap.size w W → Calls Try.prog 30 #[v1, v2] W fun e w' => e = .returned (.bool true) ∧ Below W.heap.size W w') := fun W hW => lwTexts_same b1 b2 v1 v2 ss W (by omega) (h1.below hW) (h2.below hW)
  have HR : Hid _ := fun w => specWireRight_any i e d b w hb
  obtain ⟨p1, c1, rfl⟩ := h1.shape
  obtain ⟨p2, c2, rfl⟩ := h2.shape
  clear h1 h2
  have hA : Below w.heap.size w ((w.alloc (.cells #[.bool i, .bool e, .bool d, .string b, .slice p1 ss.length c1, .int .i64 c] 40)).alloc (.cells #[.bool i, .bool e, .bool d, .string b, .slice p2 ss.length c2, .int .i64 c] 40)) := ((Below.refl w.heap.size w).alloc (Nat.le_refl _) _).alloc (by simp) _
  by_cases h0 : c = 0
  · subst h0
    rw [hc rfl] at HR
    clear hc
    go_enter Try.func24, Try.ntmps24
    go_wp2_with (first | (go_at_call 30; refine (HS.out _ hA).mono ?_; rintro e' w2 ⟨rfl, hb2⟩; obtain ⟨hc2, hf2⟩ := bcellF hb2) | (go_at_call 29; refine (HR.out _).mono ?_; rintro e' w3 ⟨rfl, hb3⟩))
    go_ret
    exact ⟨rfl, keepB (keepB hA (Nat.le_refl _) hb2) (Nat.le_refl _) hb3⟩
  · have q0 : (c != 0) = true := by simpa using h0
    clear hc HR
    go_enter Try.func24, Try.ntmps24
    go_wp2_with (go_at_call 30; refine (HS.out _ hA).mono ?_; rintro e' w2 ⟨rfl, hb2⟩; obtain ⟨hc2, hf2⟩ := bcellF hb2)
    go_ret
    exact ⟨rfl, keepB hA (Nat.le_refl _) hb2⟩
end Go.Proofs.Ytiaphaghjklhaaa
