/- THE WALKS of GetNum, the program's and the model's: both answer the number that stands at the place, the place behind it, and the code. -/
import Derived.Test.YthmbfkppjijelaaProg
import Derived.Test.YthmbfkppjijelaaPlain
import Derived.Test.YthmbfkppjijelaaScope3
import Derived.Test.YthmbfkppjijelaaPlainGet
import Derived.WalkKit
import Derived.WalkSpells
import Derived.Outline
import Derived.Below
namespace Go.Proofs.Ythmbfkppjijelaa
open Go.RowKit

theorem unfoldSign_any (u : Nat) (w : World) (hu : u < 18446744073709551616) :
    Calls Try.prog 78 #[.int .u64 u] w fun e w' => e = .returned (.int .i64 (unfoldZ u)) ∧ w = w' := by
  by_cases h : u % 2 = 0
  · have h' : (((u : Int) % 2) == 0) = true := by simp; omega
    go_enter Try.func78, Try.ntmps78
    go_wp2
    go_ret
    exact ⟨ret_int (by unfold unfoldZ; rw [if_pos h]; omega), rfl⟩
  · have h' : (((u : Int) % 2) == 0) = false := by simp; omega
    go_enter Try.func78, Try.ntmps78
    go_wp2
    go_ret
    exact ⟨ret_int (by unfold unfoldZ; rw [if_neg h]; omega), rfl⟩
def errV (c : Int) : Value := if c = 0 then .nilIface else .iface 101 (.agg #[.int .i64 c])
def tupR (r : Int × Int × Int) : Value := .tuple #[.int .i64 r.1, .int .i64 r.2.1, errV r.2.2]

theorem tupR_ok (n p : Int) : tupR (n, p, 0) = .tuple #[.int .i64 n, .int .i64 p, .nilIface] := by simp [tupR, errV]
theorem tupR_no {c : Int} (h : c ≠ 0) : tupR (0, 0, c) = .tuple #[.int .i64 0, .int .i64 0, .iface 101 (.agg #[.int .i64 c])] := by simp [tupR, errV, h]
theorem ret_val {a b : Value} (h : a = b) : Ending.returned a = .returned b := by rw [h]

set_option maxRecDepth 100000 in
set_option maxHeartbeats 3200000 in
theorem readNum_any (s : ByteArray) (a : Int) (w : World) (hs : s.size ≤ 8000) :
    Calls Try.prog 75 #[.string s, .int .i64 a] w fun e w' => e = .returned (tupR (getR s a)) ∧ w = w' := by
  have hR : getR s a = if a < 0 then (0, 0, 1) else getG s 10 a.toNat 0 0 := by unfold getR; rw [if_neg (by omega)]
  generalize getR s a = R at hR
  have HR : Hid (R = if a < 0 then (0, 0, 1) else getG s 10 a.toNat 0 0) := hR
  clear hR
  go_enter Try.func75, Try.ntmps75
  go_wp2
  refine wp_scope_3 0 1 2 (fun a' w' => w' = w ∧ ∃ (x1 x7 x8 x9 : Value) (cc : Int) (x11 x12 x13 x14 x15 x16 x17 x18 x19 x20 x21 x22 x23 x24 x25 x26 x27 x28 x29 x30 x31 x32 x33 x34 x35 x36 x37 x38 x39 x40 x41 x42 x43 x44 x45 x46 x47 x48 x49 x50 : Value), a' = { tmps := #[.string s, x1, undef, undef, .int .i64 0, .int .i64 0, .nilIface, x7, x8, x9, .int .i64 cc, x11, x12, x13, x14, x15, x16, x17, x18, x19, x20, x21, x22, x23, x24, x25, x26, x27, x28, x29, x30, x31, x32, x33, x34, x35, x36, x37, x38, x39, x40, x41, x42, x43, x44, x45, x46, x47, x48, x49, x50], defers := [] } ∧ Hid (R = (0, 0, cc) ∧ cc ≠ 0))
    (fun a' w' => w' = w ∧ ∃ (p k u : Nat) (x9 : Value) (x11 x12 x13 x14 x15 x16 x17 x18 x19 x20 x21 x22 x23 x24 x25 x26 x27 x28 x29 x30 x31 x32 x33 x34 x35 x36 x37 x38 x39 x40 x41 x42 x43 x44 x45 x46 x47 x48 x49 x50 : Value), a' = { tmps := #[.string s, .int .i64 p, undef, undef, .int .i64 0, .int .i64 0, .nilIface, .int .u64 u, .int .u64 (7 * (k : Int)), x9, .int .i64 3, x11, x12, x13, x14, x15, x16, x17, x18, x19, x20, x21, x22, x23, x24, x25, x26, x27, x28, x29, x30, x31, x32, x33, x34, x35, x36, x37, x38, x39, x40, x41, x42, x43, x44, x45, x46, x47, x48, x49, x50], defers := [] } ∧ k ≤ 9 ∧ p < 8010 ∧ Hid (u < 2 ^ (7 * k)) ∧ Hid (getG s (10 - k) p k u = R))
    (fun a' w' => w' = w ∧ ∃ (p k u c : Nat) (x11 x12 x13 x14 x15 x16 x17 x18 x19 x20 x21 x22 x23 x24 x25 x26 x27 x28 x29 x30 x31 x32 x33 x34 x35 x36 x37 x38 x39 x40 x41 x42 x43 x44 x45 x46 x47 x48 x49 x50 : Value), a' = { tmps := #[.string s, .int .i64 ((p : Int) + 1), undef, undef, .int .i64 0, .int .i64 0, .nilIface, .int .u64 u, .int .u64 (7 * (k : Int)), .int .u8 c, .int .i64 3, x11, x12, x13, x14, x15, x16, x17, x18, x19, x20, x21, x22, x23, x24, x25, x26, x27, x28, x29, x30, x31, x32, x33, x34, x35, x36, x37, x38, x39, x40, x41, x42, x43, x44, x45, x46, x47, x48, x49, x50], defers := [] } ∧ k ≤ 9 ∧ c < 128 ∧ u < 18446744073709551616 ∧ p < 8010 ∧ Hid (R = if c = 0 ∧ 0 < k then (0, 0, 3) else (unfoldZ u, (p : Int) + 1, 0)))
    (fun a' _ => 70 - (intOf (a'.tmps.getD 8 undef)).toNat) (by decide) (by decide) (by decide) rfl rfl rfl ?_ ?_ ?_ ?_
  · by_cases h0 : a < 0
    · go_wp2
      go_step3
      refine Or.inl ⟨rfl, rfl, _, _, _, _, 1, _, _, _, _, _, _, _, _, _, _, _, _, _, _, _, _, _, _, _, _, _, _, _, _, _, _, _, _, _, _, _, _, _, _, _, _, _, _, _, _, rfl, show _ ∧ _ from ⟨by rw [HR.out, if_pos h0], by decide⟩⟩
    · obtain ⟨p, rfl⟩ := Int.eq_ofNat_of_zero_le (show 0 ≤ a by omega)
      have HP : Hid (R = getG s 10 p 0 0) := by rw [HR.out, if_neg h0]; rfl
      clear HR h0
      by_cases h1 : s.size ≤ p
      · go_wp2
        go_step3
        go_wp2
        go_step3
        refine Or.inl ⟨rfl, rfl, _, _, _, _, 4, _, _, _, _, _, _, _, _, _, _, _, _, _, _, _, _, _, _, _, _, _, _, _, _, _, _, _, _, _, _, _, _, _, _, _, _, _, _, _, _, rfl, show _ ∧ _ from ⟨?_, by decide⟩⟩
        rw [HP.out, g_short h1]
      have HO : Hid _ := or_first s[p].toNat
      by_cases hc : s[p].toNat < 128
      · go_wp2
        go_step3
        go_wp2
        go_step3
        rw [HO.out]
        refine Or.inr (Or.inr ⟨rfl, rfl, p, 0, _, s[p].toNat, _, _, _, _, _, _, _, _, _, _, _, _, _, _, _, _, _, _, _, _, _, _, _, _, _, _, _, _, _, _, _, _, _, _, _, _, _, _, _, _, rfl, by omega, hc, by omega, by omega, ?_⟩)
        exact HP.out.trans (last_eq (by omega) (by omega) hc)
      · go_wp2
        go_step3
        go_wp2
        go_step3
        rw [HO.out, show (p : Int) + 1 = ((p + 1 : Nat) : Int) from rfl]
        refine Or.inr (Or.inl ⟨rfl, rfl, p + 1, 1, _, _, _, _, _, _, _, _, _, _, _, _, _, _, _, _, _, _, _, _, _, _, _, _, _, _, _, _, _, _, _, _, _, _, _, _, _, _, _, _, _, _, rfl, by omega, by omega, next_lt (by decide), ?_⟩)
        exact ((HP.out.trans (g_more (by omega) (by omega) (by omega)))).symm
  · rintro a' w' ⟨rfl, x1, x7, x8, x9, cc, x11, x12, x13, x14, x15, x16, x17, x18, x19, x20, x21, x22, x23, x24, x25, x26, x27, x28, x29, x30, x31, x32, x33, x34, x35, x36, x37, x38, x39, x40, x41, x42, x43, x44, x45, x46, x47, x48, x49, x50, rfl, HC⟩
    clear HR
    go_wp2
    rw [jumps_ret]
    go_ret3
    exact ⟨ret_val (by rw [HC.out.1, tupR_no HC.out.2]; rfl), rfl⟩
  · rintro a' w' ⟨rfl, p, k, u, c, x11, x12, x13, x14, x15, x16, x17, x18, x19, x20, x21, x22, x23, x24, x25, x26, x27, x28, x29, x30, x31, x32, x33, x34, x35, x36, x37, x38, x39, x40, x41, x42, x43, x44, x45, x46, x47, x48, x49, x50, rfl, hk, hc, hu, hp, HC⟩
    clear HR
    by_cases h1 : c = 0 ∧ 0 < k
    · obtain ⟨h1, h2⟩ := h1
      subst h1
      go_wp2
      go_step3
      refine ⟨rfl, rfl, _, _, _, _, 3, _, _, _, _, _, _, _, _, _, _, _, _, _, _, _, _, _, _, _, _, _, _, _, _, _, _, _, _, _, _, _, _, _, _, _, _, _, _, _, _, rfl, show _ ∧ _ from ⟨HC.out.trans (if_pos (by simp [h2])), by decide⟩⟩
    · have HD : Hid (R = (unfoldZ u, (p : Int) + 1, 0)) := show _ = _ by rw [HC.out, if_neg h1]
      clear HC
      by_cases h2 : c = 0
      · obtain rfl : k = 0 := by omega
        subst h2
        clear h1
        go_wp2_with (go_at_call 78; refine (unfoldSign_any u _ hu).mono ?_; rintro e w1 ⟨rfl, rfl⟩)
        rw [jumps_ret]
        go_ret3
        exact ⟨ret_val (by rw [HD.out, tupR_ok]; rfl), rfl⟩
      · have h2' : ((c : Int) == 0) = false := by simp; omega
        clear h1
        go_wp2_with (go_at_call 78; refine (unfoldSign_any u _ hu).mono ?_; rintro e w1 ⟨rfl, rfl⟩)
        rw [jumps_ret]
        go_ret3
        exact ⟨ret_val (by rw [HD.out, tupR_ok]; rfl), rfl⟩
  · rintro a' w' ⟨rfl, p, k, u, x9, x11, x12, x13, x14, x15, x16, x17, x18, x19, x20, x21, x22, x23, x24, x25, x26, x27, x28, x29, x30, x31, x32, x33, x34, x35, x36, x37, x38, x39, x40, x41, x42, x43, x44, x45, x46, x47, x48, x49, x50, rfl, hk, hp, HU, HG⟩
    clear HR
    by_cases h1 : s.size ≤ p
    · go_wp2
      go_step3
      refine Or.inl ⟨rfl, rfl, _, _, _, _, 4, _, _, _, _, _, _, _, _, _, _, _, _, _, _, _, _, _, _, _, _, _, _, _, _, _, _, _, _, _, _, _, _, _, _, _, _, _, _, _, _, rfl, show _ ∧ _ from ⟨?_, by decide⟩⟩
      rw [← HG.out, show 10 - k = (9 - k) + 1 by omega, g_short h1]
    by_cases h9 : k = 9
    · subst h9
      by_cases hc : 1 < s[p].toNat
      · go_wp2
        go_step3
        refine Or.inl ⟨rfl, rfl, _, _, _, _, 3, _, _, _, _, _, _, _, _, _, _, _, _, _, _, _, _, _, _, _, _, _, _, _, _, _, _, _, _, _, _, _, _, _, _, _, _, _, _, _, _, rfl, show _ ∧ _ from ⟨?_, by decide⟩⟩
        rw [← HG.out, show 10 - 9 = 0 + 1 by omega, g_nine (by omega) rfl hc]
      · have HO : Hid _ := or_nine hc HU.out
        go_wp2
        go_step3
        rw [HO.out]
        refine Or.inr (Or.inr ⟨rfl, rfl, p, 9, _, s[p].toNat, _, _, _, _, _, _, _, _, _, _, _, _, _, _, _, _, _, _, _, _, _, _, _, _, _, _, _, _, _, _, _, _, _, _, _, _, _, _, _, _, rfl, by omega, by omega, (in64 (by omega) (by omega) HU.out).2, hp, ?_⟩)
        exact HG.out.symm.trans (last_eq (by omega) (by omega) (by omega))
    by_cases hc : s[p].toNat < 128
    · have HO : Hid _ := or_val hk (fun h => h9 h.1) HU.out (c := s[p].toNat)
      go_wp2
      go_step3
      rw [HO.out]
      refine Or.inr (Or.inr ⟨rfl, rfl, p, k, _, s[p].toNat, _, _, _, _, _, _, _, _, _, _, _, _, _, _, _, _, _, _, _, _, _, _, _, _, _, _, _, _, _, _, _, _, _, _, _, _, _, _, _, _, rfl, hk, hc, (in64 hk (fun h => h9 h.1) HU.out).2, hp, ?_⟩)
      have e := HG.out.symm
      rw [show 10 - k = (9 - k) + 1 by omega] at e
      exact e.trans (last_eq (by omega) (fun h => h9 h.1) hc)
    · have HO : Hid _ := or_val hk (fun h => h9 h.1) HU.out (c := s[p].toNat)
      go_wp2
      go_step3
      rw [HO.out, show (p : Int) + 1 = ((p + 1 : Nat) : Int) from rfl, show 7 * (k : Int) + 7 = 7 * ((k + 1 : Nat) : Int) by omega]
      refine Or.inr (Or.inl ⟨rfl, ⟨rfl, p + 1, k + 1, _, _, _, _, _, _, _, _, _, _, _, _, _, _, _, _, _, _, _, _, _, _, _, _, _, _, _, _, _, _, _, _, _, _, _, _, _, _, _, _, _, _, rfl, by omega, by omega, next_lt HU.out, ?_⟩, ?_⟩)
      · have e := HG.out
        rw [show 10 - k = (9 - k) + 1 by omega, g_more (by omega) (fun h => h9 h.1) (by omega)] at e
        rw [show 10 - (k + 1) = 9 - k by omega]
        exact e
      · simp [intOf]; omega

def numV (r : Int × Int × Int) : Value := .agg #[.int .i64 r.1, .int .i64 r.2.1, .int .i64 r.2.2]
theorem bcell {B : Nat} {W w1 : World} (hb : Below B W w1) : (∀ b o, b < B → w1.cell? ⟨b, o, none⟩ = W.cell? ⟨b, o, none⟩) ∧ (∀ b o, b < B → w1.frozen? ⟨b, o, none⟩ = W.frozen? ⟨b, o, none⟩) :=
  ⟨fun b o h => hb.cell (p := ⟨b, o, none⟩) h, fun b o h => hb.frozen (p := ⟨b, o, none⟩) h⟩
theorem keepS {B : Nat} {W a b : World} (h : Below B W a) (hB : B ≤ W.heap.size) (k : Below a.heap.size a b) : Below B W b := h.trans (k.mono (Nat.le_trans hB h.size))

end Go.Proofs.Ythmbfkppjijelaa
