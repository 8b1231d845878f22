/- FnSeal: at every code: a drawn text comes back from its seal, with one byte turned it is refused, and a CRC goes on from text to text; no condition. -/
import Derived.Test.YtpejljjjfplmlaaRows
import Derived.Test.YtpejljjjfplmlaaSealLaw
import Derived.WalkKit
import Derived.WalkSpells
import Derived.ProofKit
import Derived.OpenShut
import Derived.ShutString
import Derived.ChangeOld
import Derived.Below
import Derived.Outline
import Derived.Lib.ConvBytes
import Derived.Deep.RegionHeld3
import Derived.Deep.RegionWith
namespace Go.Proofs.Ytpejljjjfplmlaa.fnSeal
open Go.ChangeShapes Go.WideShapes Go.ChangeAt Go.RowKit
open Go.ChangeMaps (open_string shut_string)
set_option linter.unusedVariables false

theorem own : ownKnob Try.prog.godebug = none := by kernel_rfl
theorem laidOut : laidOutB Try.prog = true := by kernel_rfl

set_option maxRecDepth 100000 in
set_option maxHeartbeats 3200000 in
/-- The walk: the law returns true, and nothing that was there has turned. -/
theorem walk (a0 : Option Addr) (len0 cap0 : Nat) (z0 : List Int) (a1 : Option Addr) (len1 cap1 : Nat) (z1 : List Int) (w : World) (w0 : IsRow .u8 w a0 len0 cap0 z0) (w1 : IsRow .u8 w a1 len1 cap1 z1) :
    Calls Try.prog 3 #[.slice a0 len0 cap0, .slice a1 len1 cap1] w fun e w' => e = .returned (.bool true) ∧ Below w.heap.size w w' := by
  by_cases hb0 : 1048576 < len0
  · have hl0 : (len0 : Int) ≤ 9223372036854775807 := by have := IsRow.len w0; omega
    go_enter Try.func3, Try.ntmps3
    go_wp2
    go_ret
    exact ⟨rfl, Below.refl _ _⟩
  by_cases hb1 : 1048576 < len1
  · have hl1 : (len1 : Int) ≤ 9223372036854775807 := by have := IsRow.len w1; omega
    go_enter Try.func3, Try.ntmps3
    go_wp2
    go_ret
    exact ⟨rfl, Below.refl _ _⟩
  have r0 := IsRow.rb w0 (by omega)
  have r1 := IsRow.rb w1 (by omega)
  go_enter Try.func3, Try.ntmps3
  go_wp2_with (go_at_call 5; refine (drawSeal_any w.heap.size a0 len0 cap0 _ r0 (Nat.le_refl _)).mono ?_; rintro e v1 ⟨t, rfl, ht, hv1⟩)
  have HZ : Hid (t.size ≤ maxLen) := show _ ≤ _ by unfold maxLen; omega
  by_cases hbig : 7996 < t.size
  · have HS1 : Hid (∀ W : World, Calls Try.prog 6 #[.string t] W fun e w' => e = .returned (.string ByteArray.empty) ∧ Below W.heap.size W w') := fun W => by
      have := seal_any t W HZ.out
      unfold sealB at this
      rwa [if_pos hbig] at this
    have HS2 : Hid (∀ W : World, Calls Try.prog 7 #[.string t] W fun e w' => e = .returned (.string ByteArray.empty) ∧ Below W.heap.size W w') := fun W => by
      have := specSeal_any t W HZ.out
      unfold sealB at this
      rwa [if_pos hbig] at this
    go_wp2_with (first | (go_at_call 6; refine (HS1.out _).mono ?_; rintro e v2 ⟨rfl, hv2⟩) | (go_at_call 7; refine (HS2.out _).mono ?_; rintro e v3 ⟨rfl, hv3⟩; have hb3 := keepS (keepS hv1 (Nat.le_refl _) hv2) (Nat.le_refl _) hv3))
    go_wp2_with (go_at_call 10; refine (drawCrcMore_any w.heap.size a1 len1 cap1 _ (r1.blw hb3) hb3.size).mono ?_; rintro e u1 ⟨c, u, rfl, hc, hu, hbu⟩; have hB1 := keepS hb3 (Nat.le_refl _) hbu; have hum : Hid (u.size ≤ maxLen) := (show _ ≤ _ by unfold maxLen; omega))
    · go_ret
      exact ⟨rfl, hB1⟩
    · have hsum : t.size + u.size ≤ 8000 := by omega
      have htm : Hid (t.size ≤ maxLen) := show _ ≤ _ by unfold maxLen; omega
      have htu : Hid ((t ++ u).size ≤ maxLen) := show _ ≤ _ by rw [ByteArray.size_append]; unfold maxLen; omega
      have e1 : (crcM c u == crcM c u) = true := by simp
      have e2 : (crcM (crcM 0 t) u == crcM 0 (t ++ u)) = true := by rw [crc_goes_on t u hsum]; simp
      go_wp2_with (first | (go_at_call 11; refine (crcMore_any _ u _ hum.out).mono ?_; rintro e x1 ⟨rfl, rfl⟩) | (go_at_call 12; refine (specCrcMore_any _ u _ hum.out).mono ?_; rintro e x1 ⟨rfl, rfl⟩) | (go_at_call 13; refine (crc_any _ _ (by first | exact htm.out | exact htu.out)).mono ?_; rintro e x1 ⟨rfl, rfl⟩))
      go_ret
      exact ⟨rfl, hB1⟩
  · have hz := sealB_size t (by omega)
    have hus := unseal_seal t (by omega)
    have hut : Hid _ := @unseal_turned t
    have HS1 : Hid (∀ W : World, Calls Try.prog 6 #[.string t] W fun e w' => e = .returned (.string (sealB t)) ∧ Below W.heap.size W w') := fun W => seal_any t W HZ.out
    have HS2 : Hid (∀ W : World, Calls Try.prog 7 #[.string t] W fun e w' => e = .returned (.string (sealB t)) ∧ Below W.heap.size W w') := fun W => specSeal_any t W HZ.out
    generalize sealB t = S at hz hus hut HS1 HS2
    have hus' : Hid (unsealV S = textOut t 0 0) := hus
    clear hus
    have hq0 : (S.toList == ([] : List UInt8)) = false := by
      rw [Lib.toList_data]
      have : S.data.toList.length = t.size + 4 := by rw [Array.length_toList]; exact hz
      cases hc : S.data.toList with
      | nil => rw [hc] at this; simp at this
      | cons a l => rfl
    go_wp2_with (first | (go_at_call 6; refine (HS1.out _).mono ?_; rintro e v2 ⟨rfl, hv2⟩) | (go_at_call 7; refine (HS2.out _).mono ?_; rintro e v3 ⟨rfl, hv3⟩; obtain ⟨v4, gc, cs, hcv, HC, hv4, hn4⟩ := conv_row (P := Try.prog) v3 9 22 5 S Try.underlying9 Try.underlying22 Try.underlying5; have hb3 := keepS (keepS hv1 (Nat.le_refl _) hv2) (Nat.le_refl _) hv3; have hb4 := keepS hb3 (Nat.le_refl _) hv4; have r14 := r1.blw hb4))
    refine (lwAt_any w.heap.size a1 len1 cap1 0 ((t.size : Int) + 4) v4 r14 (by omega) (by omega)).mono ?_
    rintro e v5 ⟨j, rfl, hj, rfl⟩
    have hj2 : j < t.size + 4 := by omega
    obtain ⟨cj, fj⟩ := row_cell HC.out j (by rw [hz]; exact hj2)
    obtain ⟨x0, HX0⟩ : ∃ x0 : Nat, Hid (S[j].toNat = x0) := ⟨_, show _ = _ from rfl⟩
    rw [HX0.out] at cj
    have hx0 : x0 < 256 := by rw [← HX0.out]; exact u8_lt _
    have r14' : Hid (Rb w.heap.size v4.drew a1 len1) := r14
    have hSz : Hid (S.size ≤ maxLen) := show _ ≤ _ by rw [hz]; unfold maxLen; omega
    have hgl : Hid (v3.heap.size < v4.heap.size) := show _ < _ by omega
    clear hj r14 hcv r0 w0 w1
    go_wp2
    go_region_with ((go_at_call 8; refine (lwAt_any w.heap.size a1 len1 cap1 1 255 _ r14'.out (by omega) (by omega)).mono ?_; rintro e v6 ⟨d, rfl, hd, rfl⟩; have hd2 : d < 255 := (by omega); clear hd))
    all_goals
      have ew : IntKind.u8.wrap (IntKind.i64.wrap (1 + (d : Int))) = 1 + (d : Int) := by simp [IntKind.wrap, IntKind.bits, IntKind.signed]; omega
      obtain ⟨y, hy, hyx⟩ := turned_byte x0 d hx0 hd2
      (try rw [ew])
      rw [hy]
      clear ew hy hx0 hd2
      obtain ⟨s', HS'⟩ : ∃ s', Hid ((⟨(S.data.toList.set j y).toArray⟩ : ByteArray) = s') := ⟨_, show _ = _ from rfl⟩
      have hs'z : s'.size = t.size + 4 := by rw [← HS'.out, ← hz]; show (S.data.toList.set j y).toArray.size = S.data.size; simp
      have hut' : Hid (unsealV s' = textOut ByteArray.empty 0 5) := hut.out s' j y (by omega) (by rw [hz]; exact hj2) (fun e => hyx (by rw [e]; exact HX0.out)) (by rw [← HS'.out])
      have hs'm : Hid (s'.size ≤ maxLen) := show _ ≤ _ by rw [hs'z]; unfold maxLen; omega
      obtain ⟨v5, hv5⟩ : ∃ v5, v5 = (v4.setCell ⟨v3.heap.size, j, none⟩ (.int .u8 (y.toNat : Int))).drew := ⟨_, rfl⟩
      have hz5 : v5.heap.size = v4.heap.size := by rw [hv5]; simp [World.setCell]
      have HCV : Hid (∀ v6, Below v5.heap.size v5 v6 → (convert 22 9 (.slice (some ⟨v3.heap.size, 0, none⟩) (t.size + 4) gc)).run Try.prog v6 = .ok (.string s') v6) := by
        intro v6 hb6
        rw [← HS'.out]
        rw [hz5] at hb6
        rw [hv5] at hb6
        exact turned_conv 22 9 Try.underlying22 Try.underlying5 Try.underlying9 HC.out j (by rw [hz]; exact hj2) y hgl.out hb6 _ gc hz
      have HB5 : Hid (Below w.heap.size w v5) := show Below _ _ _ by rw [hv5]; exact ((hb4.setCell (Nat.le_trans hb3.size (Nat.le_refl _)) _).drew)
      rw [← hv5]
      clear hv5 hz5 cj fj HC HX0
      have hfd := field_code ByteArray.empty 0 5
      go_wp2_with (go_at_call 9; refine (unseal_any _ _ (by first | exact hSz.out | exact hs'm.out)).mono ?_; rintro e v6 ⟨rfl, hv6⟩; first | (rw [hus'.out]; unfold textOut; have hcv6 := HCV.out v6 hv6; have hb6 := keepS HB5.out (Nat.le_refl _) hv6) | (rw [hut'.out]; unfold textOut; have hb7 := keepS hb6 (Nat.le_refl _) hv6))
      go_wp2_with (go_at_call 10; refine (drawCrcMore_any w.heap.size a1 len1 cap1 _ (r1.blw hb7) hb7.size).mono ?_; rintro e u1 ⟨c, u, rfl, hc, hu, hbu⟩; have hB1 := keepS hb7 (Nat.le_refl _) hbu; have hum : Hid (u.size ≤ maxLen) := (show _ ≤ _ by unfold maxLen; omega))
      · go_ret
        exact ⟨rfl, hB1⟩
      · have hsum : t.size + u.size ≤ 8000 := by omega
        have htm : Hid (t.size ≤ maxLen) := show _ ≤ _ by unfold maxLen; omega
        have htu : Hid ((t ++ u).size ≤ maxLen) := show _ ≤ _ by rw [ByteArray.size_append]; unfold maxLen; omega
        have e1 : (crcM c u == crcM c u) = true := by simp
        have e2 : (crcM (crcM 0 t) u == crcM 0 (t ++ u)) = true := by rw [crc_goes_on t u hsum]; simp
        go_wp2_with (first | (go_at_call 11; refine (crcMore_any _ u _ hum.out).mono ?_; rintro e x1 ⟨rfl, rfl⟩) | (go_at_call 12; refine (specCrcMore_any _ u _ hum.out).mono ?_; rintro e x1 ⟨rfl, rfl⟩) | (go_at_call 13; refine (crc_any _ _ (by first | exact htm.out | exact htu.out)).mono ?_; rintro e x1 ⟨rfl, rfl⟩))
        go_ret
        exact ⟨rfl, hB1⟩

set_option maxRecDepth 100000 in
theorem lifted (os : Os) (started : os.Started) (H : Type) (enc : TypeId × Value → H) :
    ReturnsInHanded {} Try.checked os 3 .any (Rows.fnSealSpec.pre6 enc Try.prog Try.f3 Rows.fnSealRow.domain false) (Rows.fnSealSpec.post enc Try.prog Try.f3 false true false false) := by
  refine returnsInHanded_of_change (C := Try.checked) own started (by kernel_rfl) Try.func3
    (ChangeSpec.witness6 (enc := enc) (C := Try.checked) false ⟨#[], #[.slice none 0 0, .slice none 0 0], []⟩ 8 (by kernel_rfl) (by kernel_rfl) (by kernel_rfl) (by kernel_rfl)) ?_
  intro W base args ds gs before hval0 hW hcnd _
  have hval : ∀ (j : Nat) t v, Try.f3.params[j]? = some t → args[j]? = some v → Value.okWide Try.prog W .any base t v := hval0
  have hW' := hW
  obtain ⟨p, q, hA0, hV, rfl, hfz, hnd⟩ := hW
  have hA : DataW.TrodAll enc Try.prog W 0 (fun _ => true) true Try.f3.params.toList args.toList ds p := hA0
  rw [Try.params3] at hA hval
  obtain ⟨v0, vs0, d0, ds0, p0, q0, hargs, rfl, rfl, h0, r0⟩ := trodAll_cons hA
  obtain ⟨v1, vs1, d1, ds1, p1, q1, rfl, rfl, rfl, h1, r1⟩ := trodAll_cons r0
  obtain ⟨rfl, rfl, rfl⟩ := trodAll_nil r1
  obtain rfl : args = #[v0, v1] := by cases args; simp_all
  obtain ⟨rfl, rfl⟩ := trodVars_none hV
  obtain ⟨a0, len0, cap0, rfl⟩ := okWide_slice Try.underlying22 (hval 0 22 v0 rfl rfl)
  have k0 := h0
  have lt0 : ∀ x ∈ p0, x.block < W.heap.size := by obtain ⟨m, hm⟩ := k0; exact DataW.trod_lt m _ _ _ hm
  obtain ⟨z0, w0⟩ : ∃ zs, IsRow .u8 W a0 len0 cap0 zs := by
    obtain ⟨fuel, hf⟩ := h0
    rcases open_ints Try.underlying22 Try.underlying5 (by kernel_rfl) hf with ⟨hcs, _⟩ | ⟨x, l, c, zs, hcs, _, hl, hm, hz, _, hcell, hwz⟩
    · simp [Value.cells] at hcs
      obtain ⟨rfl, rfl, rfl⟩ := hcs
      exact ⟨[], .inl ⟨rfl, rfl, rfl, rfl⟩⟩
    · simp [Value.cells] at hcs
      obtain ⟨rfl, rfl, rfl⟩ := hcs
      exact ⟨zs, .inr ⟨_, rfl, hl, hm, by simpa using hz, hcell, hwz⟩⟩
  obtain ⟨a1, len1, cap1, rfl⟩ := okWide_slice Try.underlying22 (hval 1 22 v1 rfl rfl)
  have k1 := h1
  have lt1 : ∀ x ∈ p1, x.block < W.heap.size := by obtain ⟨m, hm⟩ := k1; exact DataW.trod_lt m _ _ _ hm
  obtain ⟨z1, w1⟩ : ∃ zs, IsRow .u8 W a1 len1 cap1 zs := by
    obtain ⟨fuel, hf⟩ := h1
    rcases open_ints Try.underlying22 Try.underlying5 (by kernel_rfl) hf with ⟨hcs, _⟩ | ⟨x, l, c, zs, hcs, _, hl, hm, hz, _, hcell, hwz⟩
    · simp [Value.cells] at hcs
      obtain ⟨rfl, rfl, rfl⟩ := hcs
      exact ⟨[], .inl ⟨rfl, rfl, rfl, rfl⟩⟩
    · simp [Value.cells] at hcs
      obtain ⟨rfl, rfl, rfl⟩ := hcs
      exact ⟨zs, .inr ⟨_, rfl, hl, hm, by simpa using hz, hcell, hwz⟩⟩
  clear hA0 hval0
  refine (walk a0 len0 cap0 z0 a1 len1 cap1 z1 W w0 w1).mono fun e W' ⟨he, bel⟩ => ?_
  subst he
  exact ⟨_, rfl, _, _, _, [], _, [], hW', trodAll_mk1 (shut_bool Try.underlying4 _), (trodAll_cons_mk (Below.trod laidOut (by kernel_rfl) (of_decide_eq_true (by kernel_rfl)) k0 bel lt0) (trodAll_cons_mk (Below.trod laidOut (by kernel_rfl) (of_decide_eq_true (by kernel_rfl)) k1 bel lt1) trodAll_mk0)), rfl, bel.frame _, fun h => by cases h⟩

/-- The statement. -/
theorem proved : Rows.FnSealSaid :=
  OpenClaim.holds_of_wide 3 Try.f3 rfl rfl rfl rfl rfl rfl rfl ⟨rfl, rfl, rfl, rfl, rfl⟩ rfl rfl rfl rfl rfl (by kernel_rfl) Try.func3 (by kernel_rfl)
    (of_decide_eq_true (by kernel_rfl)) (by unfold Func.isWrapper; first | (rw [if_pos (by decide +kernel)]; kernel_rfl) | (rw [if_neg (by decide +kernel)]; exact ⟨rfl, rfl⟩))
    (fun os started H enc _ => lifted os started H enc)
#print axioms proved
end Go.Proofs.Ytpejljjjfplmlaa.fnSeal
