/- THE WALKS of a station's parts: the program's. -/
import Derived.Test.YtancfnpmbddfoaaStnG
import Derived.Test.YtancfnpmbddfoaaStM
import Derived.Test.YtancfnpmbddfoaaSay
import Derived.Test.YtancfnpmbddfoaaSayR
import Derived.Test.YtancfnpmbddfoaaBitsR
namespace Go.Proofs.Ytancfnpmbddfoaa
open Go.RowKit
set_option linter.unusedVariables false
set_option linter.unusedSimpArgs false

set_option maxRecDepth 100000 in
set_option maxHeartbeats 1600000 in
theorem othersRise_any (v : Value) (zs : List Int) (own : Int) (w : World) (hl : zs.length ≤ 10000000) (hr : RowI w v zs) :
    Calls Try.prog 50 #[v, .int .i64 own] w fun e w' => e = .returned (.bool (othersB own zs)) ∧ w = w' := by
  obtain ⟨p, c, rfl, hr⟩ := hr
  have HR : Hid _ := hr
  clear hr
  obtain ⟨B, hB⟩ : ∃ B, Hid (othersB own zs = B) := ⟨_, show _ = _ from rfl⟩
  rw [hB.out]
  go_enter Try.func50, Try.ntmps50
  go_wp2
  go_loop [5, 10] (fun l i => ∃ k : Nat, k ≤ zs.length ∧ i = .int .i64 k ∧ l = .int .i64 ((0 :: zs).getD k 0) ∧ Hid ((List.range k).all (othersF own zs) = true)) (fun _ i => zs.length - (intOf i).toNat)
  case atStart => exact ⟨0, Nat.zero_le _, rfl, rfl, rfl⟩
  case round =>
    obtain ⟨k, hk, rfl, rfl, HA⟩ := hrel
    by_cases hlt : k < zs.length
    · obtain ⟨g, rfl, l1, q1⟩ := HR.out k hlt
      have HN : Hid (othersF own zs k = false → B = false) := fun h => by rw [← hB.out]; exact all_range_no hlt h
      have HY : Hid (othersF own zs k = true → (List.range (k + 1)).all (othersF own zs) = true) := fun h => all_range_more HA.out h
      have HL : Hid _ := last_succ zs k hlt
      rw [othersF_at own zs k hlt] at HN HY
      generalize (0 :: zs).getD k 0 = L at HN HY ⊢
      generalize zs[k] = z at q1 HN HY HL
      by_cases h1 : L < z
      · by_cases h2 : z = own
        · have e2 : (z == own) = true := by simpa using h2
          go_wp2
          go_ret
          exact ⟨ret_bool (HN.out (by simp [riseB, h2])).symm, rfl⟩
        · have e2 : (z == own) = false := by simpa using h2
          cases h3 : addrB z with
          | true =>
            go_wp2_with (go_at_call 47; refine (isAddress_any z _).mono ?_; rintro e w1 ⟨rfl, rfl⟩; rw [h3])
            go_round
            case rel => exact ⟨k + 1, by omega, by go_num, by rw [HL.out], HY.out (by simp [riseB, h1, h2, h3])⟩
            case measure => simp [intOf]; omega
          | false =>
            go_wp2_with (go_at_call 47; refine (isAddress_any z _).mono ?_; rintro e w1 ⟨rfl, rfl⟩; rw [h3])
            go_ret
            exact ⟨ret_bool (HN.out (by simp [riseB, h3])).symm, rfl⟩
      · go_wp2
        go_ret
        exact ⟨ret_bool (HN.out (by simp [riseB, show ¬ L < z by omega])).symm, rfl⟩
    · have e1 : k = zs.length := by omega
      have e2 : B = true := by rw [← hB.out, ← HA.out, e1]; rfl
      go_wp2
      go_ret
      exact ⟨by first | exact ret_bool e2.symm | rfl, rfl⟩
set_option maxRecDepth 100000 in
set_option maxHeartbeats 1600000 in
theorem outRight_any (v : Value) (ss : List ByteArray) (w : World) (hl : ss.length ≤ 10000000) (hz : ∀ s ∈ ss, s.size ≤ 9223372036854775807) (hr : RowS w v ss) :
    Calls Try.prog 53 #[v] w fun e w' => e = .returned (.bool (outB ss)) ∧ w = w' := by
  obtain ⟨p, c, rfl, hr⟩ := hr
  have HR : Hid _ := hr
  have HZ : Hid _ := hz
  clear hr hz
  obtain ⟨B, hB⟩ : ∃ B, Hid (ss.all bodyQ = B) := ⟨_, show _ = _ from rfl⟩
  unfold outB
  rw [hB.out]
  go_enter Try.func53, Try.ntmps53
  go_wp2
  go_loop [7] (fun i => ∃ k : Nat, k ≤ ss.length ∧ i = .int .i64 k ∧ Hid ((ss.take k).all bodyQ = true)) (fun i => ss.length - (intOf i).toNat)
  case atStart => exact ⟨0, Nat.zero_le _, rfl, rfl⟩
  case round =>
    obtain ⟨k, hk, rfl, HA⟩ := hrel
    by_cases hlt : k < ss.length
    · obtain ⟨g, rfl, l1, q1⟩ := HR.out k hlt
      have HN : Hid (bodyQ ss[k] = false → B = false) := fun h => by rw [← hB.out]; exact all_take_no hlt h
      have HY : Hid (bodyQ ss[k] = true → (ss.take (k + 1)).all bodyQ = true) := fun h => all_take_more hlt HA.out h
      have hbz := HZ.out ss[k] (List.getElem_mem hlt)
      generalize ss[k] = z at q1 HN HY hbz
      have HC : Hid (∀ W : World, Calls Try.prog 68 #[.string z] W fun e w' => e = .returned (.bool (bodyQ z)) ∧ W = w') := fun W => bodyRight_any z W hbz
      cases h3 : bodyQ z with
      | true =>
        rw [h3] at HC
        go_wp2_with (go_at_call 68; refine (HC.out _).mono ?_; rintro e w1 ⟨rfl, rfl⟩)
        go_round
        case rel => exact ⟨k + 1, by omega, by go_num, HY.out h3⟩
        case measure => simp [intOf]; omega
      | false =>
        rw [h3] at HC
        go_wp2_with (go_at_call 68; refine (HC.out _).mono ?_; rintro e w1 ⟨rfl, rfl⟩)
        go_ret
        exact ⟨ret_bool (by rw [HN.out h3]; rfl), rfl⟩
    · have e1 : ss.take k = ss := List.take_of_length_le (by omega)
      have e2 : B = true := by rw [← hB.out, ← HA.out, e1]
      subst e2
      by_cases h4 : ss.length ≤ 3
      all_goals
        go_wp2
        go_ret
        exact ⟨ret_bool (by simp <;> omega), rfl⟩
end Go.Proofs.Ytancfnpmbddfoaa
