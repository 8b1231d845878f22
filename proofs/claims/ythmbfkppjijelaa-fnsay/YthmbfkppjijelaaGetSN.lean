/- THE WALK of the model's GetNum: it answers the number that stands at the place, the place behind it, and the code. -/
import Derived.Test.YthmbfkppjijelaaProg
import Derived.Test.YthmbfkppjijelaaGetN
import Derived.WalkKit
import Derived.WalkSpells
import Derived.Outline
import Derived.Below
namespace Go.Proofs.Ythmbfkppjijelaa
open Go.RowKit

set_option maxRecDepth 100000 in
set_option maxHeartbeats 1600000 in
theorem specGetNum_any (s : ByteArray) (a : Int) (w : World) (hs : s.size ≤ maxLen) :
    Calls Try.prog 71 #[.string s, .int .i64 a] w fun e w' => e = .returned (numV (getR s a)) ∧ Below w.heap.size w w' := by
  unfold maxLen at hs
  by_cases h1 : 8000 < s.size
  · have e : getR s a = (0, 0, 2) := by unfold getR; rw [if_pos h1]
    rw [e]
    go_enter Try.func71, Try.ntmps71
    go_wp2
    exact bodyPost_ret (v := numV (0, 0, 2)) (by simp [results, Try.results71, go_sem, numV]) rfl ⟨rfl, (Below.refl _ _).alloc (Nat.le_refl _) _⟩
  by_cases h2 : a < 0
  · have e : getR s a = (0, 0, 1) := by unfold getR; rw [if_neg h1, if_pos h2]
    rw [e]
    go_enter Try.func71, Try.ntmps71
    go_wp2
    exact bodyPost_ret (v := numV (0, 0, 1)) (by simp [results, Try.results71, go_sem, numV]) rfl ⟨rfl, (Below.refl _ _).alloc (Nat.le_refl _) _⟩
  obtain ⟨p, rfl⟩ := Int.eq_ofNat_of_zero_le (show 0 ≤ a by omega)
  have hR : getR s (p : Int) = getG s 10 p 0 0 := by unfold getR; rw [if_neg h1, if_neg h2]; rfl
  generalize getR s (p : Int) = R at hR
  have HR : Hid (R = getG s 10 p 0 0) := hR
  clear hR
  go_enter Try.func71, Try.ntmps71
  go_wp2
  go_loop [5, 6] (fun x i => ∃ k u : Nat, k ≤ 10 ∧ i = .int .i64 k ∧ x = .int .u64 u ∧ Hid (u < 2 ^ (7 * k)) ∧ Hid (getG s (10 - k) (p + k) k u = R)) (fun _ i => 10 - (intOf i).toNat)
  case atStart => exact ⟨0, 0, by omega, rfl, rfl, show _ < _ by decide, HR.out.symm⟩
  case round =>
    obtain ⟨k, u, hk, rfl, rfl, HU, HG⟩ := hrel
    clear HR
    by_cases hk10 : k < 10
    · by_cases h3 : s.size ≤ p + k
      · have E : Hid (R = (0, 0, 4)) := show _ = _ by rw [← HG.out, show 10 - k = (9 - k) + 1 by omega, g_short h3]
        go_wp2
        exact bodyPost_ret (v := numV R) (by rw [E.out]; simp [results, Try.results71, go_sem, numV]) rfl ⟨rfl, (Below.refl _ _).alloc (Nat.le_refl _) _⟩
      have hq : p + k < s.size := by omega
      have hb := u8_lt s[p + k]
      by_cases h9 : k = 9 ∧ 1 < s[p + k].toNat
      · have E : Hid (R = (0, 0, 3)) := show _ = _ by rw [← HG.out, show 10 - k = (9 - k) + 1 by omega, g_nine hq h9.1 h9.2]
        obtain ⟨h9a, h9b⟩ := h9
        have t9 : ((k : Int) == 9) = true := by simp; omega
        clear h9a
        go_wp2
        exact bodyPost_ret (v := numV R) (by rw [E.out]; simp [results, Try.results71, go_sem, numV]) rfl ⟨rfl, (Below.refl _ _).alloc (Nat.le_refl _) _⟩
      obtain ⟨X, hX⟩ : ∃ X, X = s[p + k].toNat % 128 * 2 ^ (7 * k) := ⟨_, rfl⟩
      have h64 := in64 (show k ≤ 9 by omega) h9 HU.out
      have e1 : IntKind.u64.wrap ((s[p + k].toNat : Int) % 128 * 2 ^ (7 * k)) = (X : Int) := by
        rw [IntKind.wrap_u64]
        have e2 : ((s[p + k].toNat % 128 * 2 ^ (7 * k) : Nat) : Int) = (s[p + k].toNat : Int) % 128 * 2 ^ (7 * k) := by rw [Int.natCast_mul, Int.natCast_emod, Int.natCast_pow]; rfl
        rw [hX, ← e2]
        exact Int.emod_eq_of_lt (Int.natCast_nonneg _) (Int.ofNat_lt.2 h64.1)
      rw [← hX] at h64
      obtain ⟨h64a, h64b⟩ := h64
      have HX : Hid (X = s[p + k].toNat % 128 * 2 ^ (7 * k)) := hX
      clear hX
      have HL := fun hc => HG.out.symm.trans ((show getG s (10 - k) (p + k) k u = getG s ((9 - k) + 1) (p + k) k u by rw [show 10 - k = (9 - k) + 1 by omega]).trans (last_eq hq h9 hc))
      have HM : Hid (128 ≤ s[p + k].toNat → getG s (9 - k) (p + k + 1) (k + 1) (u + X) = R) := by
        intro hc
        rw [← HG.out, show 10 - k = (9 - k) + 1 by omega, g_more hq h9 hc, HX.out]
      have HN : Hid (u + X < 2 ^ (7 * (k + 1))) := show _ < _ by rw [HX.out]; exact next_lt HU.out
      by_cases hc : s[p + k].toNat < 128
      · have HL2 := HL hc
        rw [← HX.out] at HL2
        clear HL HM HN HG HU
        have t9c : (((k : Int) == 9) = true ∧ s[p + k].toNat ≤ 1) ∨ ((k : Int) == 9) = false := by
          by_cases e : k = 9
          · exact .inl ⟨by simp; omega, by omega⟩
          · exact .inr (by simp; omega)
        by_cases h0 : s[p + k].toNat = 0 ∧ 0 < k
        · have E : Hid (R = (0, 0, 3)) := HL2.trans (if_pos h0)
          have tc : ((s[p + k].toNat : Int) == 0) = true := by simp; omega
          have tk : 0 < k := h0.2
          clear h0 HL2 h9
          rcases t9c with ⟨t9, c1⟩ | t9
          all_goals
            go_wp2
            exact bodyPost_ret (v := numV R) (by rw [E.out]; simp [results, Try.results71, go_sem, numV]) rfl ⟨rfl, (Below.refl _ _).alloc (Nat.le_refl _) _⟩
        · have E : Hid (R = (unfoldZ (u + X), ((p + k : Nat) : Int) + 1, 0)) := HL2.trans (if_neg h0)
          have t0c : (((s[p + k].toNat : Int) == 0) = true ∧ k < 1) ∨ ((s[p + k].toNat : Int) == 0) = false := by
            by_cases e : s[p + k].toNat = 0
            · exact .inl ⟨by simp; omega, by omega⟩
            · exact .inr (by simp; omega)
          clear HL2 h0 h9
          by_cases hpar : (u + X) % 2 = 1
          · have tp : (((u : Int) + X) % 2 == 1) = true := by simp; omega
            have EU : Hid _ := unfold_odd hpar
            clear hpar
            rcases t0c with ⟨tc, tk⟩ | tc
            · have t9 : ((k : Int) == 9) = false := by simp; omega
              clear t9c
              go_wp2
              exact bodyPost_ret (v := numV R) (by rw [E.out, EU.out]; simp [results, Try.results71, go_sem, numV]) rfl ⟨rfl, (Below.refl _ _).alloc (Nat.le_refl _) _⟩
            · rcases t9c with ⟨t9, c1⟩ | t9
              all_goals
                go_wp2
                exact bodyPost_ret (v := numV R) (by rw [E.out, EU.out]; simp [results, Try.results71, go_sem, numV]) rfl ⟨rfl, (Below.refl _ _).alloc (Nat.le_refl _) _⟩
          · have tp : (((u : Int) + X) % 2 == 1) = false := by simp; omega
            have EU : Hid _ := unfold_even hpar
            clear hpar
            rcases t0c with ⟨tc, tk⟩ | tc
            · have t9 : ((k : Int) == 9) = false := by simp; omega
              clear t9c
              go_wp2
              exact bodyPost_ret (v := numV R) (by rw [E.out, EU.out]; simp [results, Try.results71, go_sem, numV]) rfl ⟨rfl, (Below.refl _ _).alloc (Nat.le_refl _) _⟩
            · rcases t9c with ⟨t9, c1⟩ | t9
              all_goals
                go_wp2
                exact bodyPost_ret (v := numV R) (by rw [E.out, EU.out]; simp [results, Try.results71, go_sem, numV]) rfl ⟨rfl, (Below.refl _ _).alloc (Nat.le_refl _) _⟩
      · have h9' : k ≠ 9 := fun h => h9 ⟨h, by omega⟩
        have t9 : ((k : Int) == 9) = false := by simp; omega
        clear h9 HL HG HU
        go_wp2
        go_round
        case rel => exact ⟨k + 1, u + X, by omega, by go_num, by go_num, HN.out, by rw [show 10 - (k + 1) = 9 - k by omega, show p + (k + 1) = p + k + 1 by omega]; exact HM.out (by omega)⟩
        case measure => simp [intOf]; omega
    · obtain rfl : k = 10 := by omega
      have E : Hid (R = (0, 0, 3)) := HG.out.symm
      go_wp2
      exact bodyPost_ret (v := numV R) (by rw [E.out]; simp [results, Try.results71, go_sem, numV]) rfl ⟨rfl, (Below.refl _ _).alloc (Nat.le_refl _) _⟩

end Go.Proofs.Ythmbfkppjijelaa
