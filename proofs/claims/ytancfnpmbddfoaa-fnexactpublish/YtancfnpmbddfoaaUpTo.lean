/- WHETHER EACH NUMBER IS FROM 0 TO A TOP: the program's allUpTo. -/
import Derived.Test.YtancfnpmbddfoaaInts
namespace Go.Proofs.Ytancfnpmbddfoaa
open Go.RowKit
set_option linter.unusedVariables false
set_option linter.unusedSimpArgs false

def upToS (top n : Int) : Bool := decide (0 ≤ n) && decide (n ≤ top)
theorem all_noS {p : Int → Bool} {zs : List Int} {k : Nat} (h : k < zs.length) (hk : p zs[k] = false) : zs.all p = false := by
  rw [Bool.eq_false_iff]
  intro h1
  rw [List.all_eq_true] at h1
  have := h1 _ (List.getElem_mem h)
  rw [hk] at this
  cases this
theorem all_takeS {p : Int → Bool} {zs : List Int} {k : Nat} (h : k < zs.length) (h1 : (zs.take k).all p = true) (hk : p zs[k] = true) : (zs.take (k + 1)).all p = true := by
  rw [List.take_succ_eq_append_getElem h, List.all_append, h1]
  simp [hk]
set_option maxRecDepth 100000 in
set_option maxHeartbeats 800000 in
theorem allUpToS_any (v : Value) (zs : List Int) (top : Int) (w : World) (hl : zs.length ≤ 10000000) (hr : RowI w v zs) :
    Calls Try.prog 76 #[v, .int .i64 top] w fun e w' => e = .returned (.bool (zs.all (upToS top))) ∧ w = w' := by
  obtain ⟨p, c, rfl, hr⟩ := hr
  have HR : Hid _ := hr
  clear hr
  obtain ⟨B, hB⟩ : ∃ B, Hid (zs.all (upToS top) = B) := ⟨_, show _ = _ from rfl⟩
  rw [hB.out]
  go_enter Try.func76, Try.ntmps76
  go_wp2
  go_loop [9] (fun i => ∃ k : Nat, k ≤ zs.length ∧ i = .int .i64 k ∧ Hid ((zs.take k).all (upToS top) = true)) (fun i => zs.length - (intOf i).toNat)
  case atStart => exact ⟨0, Nat.zero_le _, rfl, rfl⟩
  case round =>
    obtain ⟨k, hk, rfl, HA⟩ := hrel
    by_cases hlt : k < zs.length
    · obtain ⟨g, rfl, l1, q1⟩ := HR.out k hlt
      have HN : Hid _ := @all_noS (upToS top) zs k hlt
      have HY : Hid _ := @all_takeS (upToS top) zs k hlt HA.out
      generalize zs[k] = z at q1 HN HY
      by_cases h0 : z < 0
      · go_wp2
        go_ret
        exact ⟨ret_bool (by rw [← hB.out, HN.out (by unfold upToS; rw [decide_eq_false (by omega)]; rfl)]), rfl⟩
      · by_cases h1 : top < z
        · go_wp2
          go_ret
          exact ⟨ret_bool (by rw [← hB.out, HN.out (by unfold upToS; rw [decide_eq_false (show ¬ z ≤ top by omega), Bool.and_false])]), rfl⟩
        · go_wp2
          go_round
          case rel => exact ⟨k + 1, by omega, by go_num, HY.out (by unfold upToS; rw [decide_eq_true (show 0 ≤ z by omega), decide_eq_true (show z ≤ top by omega)]; rfl)⟩
          case measure => simp [intOf]; omega
    · have e1 : zs.take k = zs := List.take_of_length_le (by omega)
      go_wp2
      go_ret
      exact ⟨ret_bool (by rw [← hB.out, ← HA.out, e1]), rfl⟩
end Go.Proofs.Ytancfnpmbddfoaa
