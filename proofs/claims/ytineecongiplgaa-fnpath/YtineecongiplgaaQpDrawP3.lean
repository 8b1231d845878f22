/- THE DRAW of a path's bytes, turned or not. -/
import Derived.Test.YtineecongiplgaaQpPlainFrame
import Derived.Test.YtineecongiplgaaQpPaB
import Derived.Test.YtineecongiplgaaQpPaC
namespace Go.Proofs.Ytineecongiplgaa
open Go.RowKit
set_option linter.unusedVariables false
set_option linter.unusedSimpArgs false

theorem pathB_small (t : Tb) : (pathB t).size ≤ 10 := by
  cases h : t.path with
  | false =>
    have e : pathB t = ByteArray.empty := by unfold pathB; rw [h]; rfl
    rw [e]; decide
  | true =>
    have e : pathB t = ⟨(pathL t).toArray⟩ := by unfold pathB; rw [h]; rfl
    have hl := ((Tb.path_iff t).1 h).2
    rw [e]
    have : (⟨(pathL t).toArray⟩ : ByteArray).size = 10 := pathL_len t (by omega) (by omega)
    omega
set_option maxRecDepth 100000 in
set_option maxHeartbeats 1600000 in
theorem drawPathRead_any (B : Nat) (a : Option Addr) (len cap : Nat) (w : World) (hr : Rb B w a len) (hB : B ≤ w.heap.size) :
    Calls Try.prog 13 #[.slice a len cap] w fun e w' => ∃ u : ByteArray, e = .returned (.string u) ∧ u.size ≤ 300 ∧ Below w.heap.size w w' := by
  go_enter Try.func13, Try.ntmps13
  go_wp2_with (first
    | (go_at_call 39; refine (source_D B a len cap _ hr hB).mono ?_; rintro e w1 ⟨rfl, hD1, hb1⟩; have HB1 : Hid _ := hb1)
    | (go_at_call 43; refine (l08Path_D hD1).mono ?_; rintro x w2 ⟨t, p1, p2, c1, c2, g, rfl, hO, hg, hn, hD2⟩)
    | (go_at_call 21; refine (specPathBytes_any t g _ _ _ (by omega) (by omega) hO).mono ?_; rintro x w3 ⟨rfl, hb3⟩; have hD3 := hD2.below hb3; have hz3 := pathB_small t; generalize pathB t = u3 at hz3)
    | (go_at_call 44; refine (one_D hD3 3 (by omega)).mono ?_; rintro e w4 ⟨r2, rfl, hD4, ho4⟩; have HD4 : Hid _ := hD4; clear hD4 ho4 hD3 hD2 hb3 hO)
    | (go_at_call 48; refine (spoil_D HD4.out u3 (by omega)).mono ?_; rintro e w5 ⟨s5, rfl, hs5, hD5⟩))
  all_goals first
    | (go_ret; exact ⟨u3, rfl, by omega, HD4.out.end HB1.out⟩)
    | (go_ret; exact ⟨s5, rfl, by omega, hD5.end HB1.out⟩)
end Go.Proofs.Ytineecongiplgaa
