/- THE WALKS of bits as bytes: the program's and the model's. -/
import Derived.Test.YtineecongiplgaaQpOwnU
import Derived.Test.YtineecongiplgaaQpBox
import Derived.Laws.BitsAllLaws
import Derived.BigRegion
namespace Go.Proofs.Ytineecongiplgaa
open Go.RowKit
set_option linter.unusedVariables false
set_option linter.unusedSimpArgs false

def upTo (top n : Int) : Bool := decide (0 ≤ n) && decide (n ≤ top)
theorem all_no {p : Int → Bool} {zs : List Int} {k : Nat} (h : k < zs.length) (hk : p zs[k] = false) : zs.all p = false := by
  rw [Bool.eq_false_iff]
  intro h1
  rw [List.all_eq_true] at h1
  have := h1 _ (List.getElem_mem h)
  rw [hk] at this
  cases this
theorem all_take {p : Int → Bool} {zs : List Int} {k : Nat} (h : k < zs.length) (h1 : (zs.take k).all p = true) (hk : p zs[k] = true) : (zs.take (k + 1)).all p = true := by
  rw [List.take_succ_eq_append_getElem h, List.all_append, h1]
  simp [hk]
set_option maxRecDepth 100000 in
set_option maxHeartbeats 800000 in
theorem allUpTo_any (v : Value) (zs : List Int) (top : Int) (w : World) (hl : zs.length ≤ 10000000) (hr : RowI w v zs) :
    Calls Try.prog 95 #[v, .int .i64 top] w fun e w' => e = .returned (.bool (zs.all (upTo top))) ∧ w = w' := by
  obtain ⟨p, c, rfl, hr⟩ := hr
  have HR : Hid _ := hr
  clear hr
  obtain ⟨B, hB⟩ : ∃ B, Hid (zs.all (upTo top) = B) := ⟨_, show _ = _ from rfl⟩
  rw [hB.out]
  go_enter Try.func95, Try.ntmps95
  go_wp2
  go_loop [9] (fun i => ∃ k : Nat, k ≤ zs.length ∧ i = .int .i64 k ∧ Hid ((zs.take k).all (upTo top) = true)) (fun i => zs.length - (intOf i).toNat)
  case atStart => exact ⟨0, Nat.zero_le _, rfl, rfl⟩
  case round =>
    obtain ⟨k, hk, rfl, HA⟩ := hrel
    by_cases hlt : k < zs.length
    · obtain ⟨g, rfl, l1, q1⟩ := HR.out k hlt
      have HN : Hid _ := @all_no (upTo top) zs k hlt
      have HY : Hid _ := @all_take (upTo top) zs k hlt HA.out
      generalize zs[k] = z at q1 HN HY
      by_cases h0 : z < 0
      · go_wp2
        go_ret
        exact ⟨ret_bool (by rw [← hB.out, HN.out (by unfold upTo; rw [decide_eq_false (by omega)]; rfl)]), rfl⟩
      · by_cases h1 : top < z
        · go_wp2
          go_ret
          exact ⟨ret_bool (by rw [← hB.out, HN.out (by unfold upTo; rw [decide_eq_false (show ¬ z ≤ top by omega), Bool.and_false])]), rfl⟩
        · go_wp2
          go_round
          case rel => exact ⟨k + 1, by omega, by go_num, HY.out (by unfold upTo; rw [decide_eq_true (show 0 ≤ z by omega), decide_eq_true (show z ≤ top by omega)]; rfl)⟩
          case measure => simp [intOf]; omega
    · have e1 : zs.take k = zs := List.take_of_length_le (by omega)
      go_wp2
      go_ret
      exact ⟨ret_bool (by rw [← hB.out, ← HA.out, e1]), rfl⟩
set_option maxRecDepth 100000 in
set_option maxHeartbeats 800000 in
theorem l04Bits_any (v : Value) (zs : List Int) (top : Nat) (w : World) (hl : zs.length ≤ 10000000) (ht : top ≤ 1000) (hr : RowI w v zs) :
    Calls Try.prog 93 #[v, .int .i64 top] w fun e w' => e = .returned (.bool (zs.all bitB && decide (zs.length ≤ top))) ∧ w = w' := by
  obtain ⟨p, c, rfl, hr⟩ := hr
  have HR : Hid _ := hr
  clear hr
  obtain ⟨B, hB⟩ : ∃ B, Hid (zs.all bitB = B) := ⟨_, show _ = _ from rfl⟩
  rw [hB.out]
  go_enter Try.func93, Try.ntmps93
  go_wp2
  go_loop [5] (fun i => ∃ k : Nat, k ≤ zs.length ∧ i = .int .i64 k ∧ Hid ((zs.take k).all bitB = true)) (fun i => zs.length - (intOf i).toNat)
  case atStart => exact ⟨0, Nat.zero_le _, rfl, rfl⟩
  case round =>
    obtain ⟨k, hk, rfl, HA⟩ := hrel
    by_cases hlt : k < zs.length
    · obtain ⟨g, rfl, l1, q1⟩ := HR.out k hlt
      have HN : Hid _ := @all_no bitB zs k hlt
      have HY : Hid _ := @all_take bitB zs k hlt HA.out
      generalize zs[k] = z at q1 HN HY
      by_cases h0 : z = 0
      · have e0 : (z != 0) = false := by simp [h0]
        go_wp2
        go_round
        case rel => exact ⟨k + 1, by omega, by go_num, HY.out ((bitB_iff _).2 (.inl h0))⟩
        case measure => simp [intOf]; omega
      · have e0 : (z != 0) = true := by simp [h0]
        by_cases h1 : z = 1
        · have e1 : (z != 1) = false := by simp [h1]
          have HY1 : Hid _ := HY.out ((bitB_iff _).2 (.inr h1))
          clear h1 h0
          go_wp2
          go_round
          case rel => exact ⟨k + 1, by omega, by go_num, HY1.out⟩
          case measure => simp [intOf]; omega
        · have e1 : (z != 1) = true := by simp [h1]
          go_wp2
          go_ret
          exact ⟨ret_bool (by rw [← hB.out, HN.out (by rw [Bool.eq_false_iff]; intro h; have := (bitB_iff _).1 h; omega), Bool.false_and]), rfl⟩
    · have e1 : zs.take k = zs := List.take_of_length_le (by omega)
      have e2 : B = true := by rw [← hB.out, ← HA.out, e1]
      go_wp2
      go_ret
      exact ⟨ret_bool (by first | rfl | (rw [e2, Bool.true_and]) | exact decide_eq_decide.2 (by omega)), rfl⟩
theorem or_table : ∀ r : Fin 8, ∀ o : Fin 128, o.val < 2 ^ r.val → bits BinOp.or IntKind.u8 (o.val : Int) (1 * 2 ^ r.val % 256) = ((o.val + 1 * 2 ^ r.val : Nat) : Int) ∧ bits BinOp.or IntKind.u8 (o.val : Int) (0 * 2 ^ r.val % 256) = ((o.val + 0 * 2 ^ r.val : Nat) : Int) := by decide +kernel
theorem or_in {old r : Nat} {z : Int} (hr : r < 8) (ho : old < 2 ^ r) (hz : z = 0 ∨ z = 1) : bits BinOp.or IntKind.u8 (old : Int) (z * 2 ^ r % 256) = ((old + (if z = 1 then 1 else 0) * 2 ^ r : Nat) : Int) := by
  have h128 : old < 128 := by
    have : 2 ^ r ≤ 2 ^ 7 := Nat.pow_le_pow_right (by decide) (by omega)
    omega
  have := or_table ⟨r, hr⟩ ⟨old, h128⟩ ho
  rcases hz with rfl | rfl
  · exact this.2
  · exact this.1
def bitsB (zs : List Int) : ByteArray := if zs.all bitB && decide (zs.length ≤ 64) then packB zs else ByteArray.empty
theorem size_set (w : World) (a : Addr) (v : Value) : (w.setCell a v).heap.size = w.heap.size := by simp [World.setCell]
theorem or_in1 {old r : Nat} (hr : r < 8) (ho : old < 2 ^ r) : bits BinOp.or IntKind.u8 (old : Int) (2 ^ r) = ((old + 1 * 2 ^ r : Nat) : Int) := by
  have := or_in (z := 1) hr ho (.inr rfl)
  rw [if_pos rfl] at this
  rw [← this]
  have h2 : (2 : Int) ^ r < 256 := by
    have : 2 ^ r ≤ 2 ^ 7 := Nat.pow_le_pow_right (by decide) (show r ≤ 7 by omega)
    have h3 : ((2 ^ r : Nat) : Int) ≤ ((2 ^ 7 : Nat) : Int) := by omega
    simp at h3
    omega
  have h0 : (0 : Int) < 2 ^ r := Int.pow_pos (by decide)
  rw [Int.one_mul, Int.emod_eq_of_lt (by omega) h2]
theorem pow_cell {k : IntKind} (r : Nat) (hr : r < 8) : (#[Value.int k 1, .int k 2, .int k 4, .int k 8, .int k 16, .int k 32, .int k 64, .int k 128] : Array Value)[r]? = some (.int k ((2 ^ r : Nat) : Int)) := by
  match r, hr with
  | 0, _ => rfl
  | 1, _ => rfl
  | 2, _ => rfl
  | 3, _ => rfl
  | 4, _ => rfl
  | 5, _ => rfl
  | 6, _ => rfl
  | 7, _ => rfl
end Go.Proofs.Ytineecongiplgaa
