/- FnNums: at every code: a drawn number and a drawn text come back from their bytes, with the place behind them, and of bytes that end too early nothing is got; no condition. -/
import Derived.Test.YtpejljjjfplmlaaDoorCards
import Derived.Test.YtpejljjjfplmlaaDoorTie
import Derived.Test.YtpejljjjfplmlaaDoorNumsLaw
import Derived.WalkKit
import Derived.WalkSpells
import Derived.ProofKit
import Derived.OpenShut
import Derived.ShutString
import Derived.ChangeOld
import Derived.ChangeVars
import Derived.JoinedOf
import Derived.Below
import Derived.LaidLaws
import Derived.LaidHandle
import Derived.Stop.Joined
import Derived.SevenTiedAt
namespace Go.Proofs.YtpejljjjfplmlaaDoor.fnNums
open Go.ChangeShapes Go.WideShapes Go.ChangeAt Go.RowKit
open Go.ChangeMaps (open_string shut_string)
set_option linter.unusedVariables false

theorem own : ownKnob Tryd.prog.godebug = none := by kernel_rfl
theorem laidOut : laidOutB Tryd.prog = true := by kernel_rfl
theorem et : Tryd.prog.globalNamed "errors.errorType" = some 0 := by kernel_rfl
theorem rt : (Tryd.prog.cutTypes.find? (·.1 == "internal/reflectlite.rtype")).map (·.2) = some 74 := by kernel_rfl
theorem oneRow : ((List.range 117).filter fun t => Tryd.prog.rowNamed t [101, 114, 114, 111, 114]) = [41] := by kernel_rfl
theorem size : Tryd.prog.types.size = 117 := by kernel_rfl

/-- what the listed variable's cell holds -/
theorem handle_of_laid {W : World} (h : laidMetH Tryd.prog Rows.fnNumsRow.laid W) : W.cell? ⟨0, 0, none⟩ = some (.iface 74 (.agg #[.pointer (some ⟨1, 41, none⟩)])) := by
  have h' : laidMet Tryd.prog [] W ∧ handlesMet Tryd.prog Rows.fnNumsRow.laid W := h
  obtain ⟨name, u, ty, e1, e2, e3, e4, e5⟩ := h'.2 _ (List.mem_singleton.2 rfl)
  have en : name = [101, 114, 114, 111, 114] := (Option.some.inj e1).symm
  subst en
  obtain rfl := Option.some.inj (rt.symm.trans e2)
  have hm : ty ∈ (List.range 117).filter fun t => Tryd.prog.rowNamed t [101, 114, 114, 111, 114] := List.mem_filter.2 ⟨List.mem_range.2 (by rw [← size]; exact e3), e4⟩
  rw [oneRow] at hm
  obtain rfl := List.mem_singleton.1 hm
  have hh : typeHandle Tryd.prog 41 = .pointer (some ⟨1, 41, none⟩) := by kernel_rfl
  rw [hh] at e5
  simpa using World.var?_cell et e5 0

/-- a world that meets the condition -/
noncomputable def laidWorld (os : Os) : World :=
  let w0 := World.holding Tryd.prog os ⟨#[], #[], []⟩
  { w0 with heap := w0.heap.modify 0 fun
      | .cells _ t frozen => .cells #[.iface 74 (.agg #[.pointer (some ⟨1, 41, none⟩)])] t frozen
      | o => o }
theorem laidWorld_met (os : Os) (args : Array Value) : laidMetH Tryd.prog Rows.fnNumsRow.laid ((laidWorld os).forCall (fun _ _ => 0) ⟨#[], args, []⟩).memory :=
  laidMetH_of_parts (laidMet_nil _ _) (by kernel_rfl)

set_option maxRecDepth 100000 in
set_option maxHeartbeats 3200000 in
/-- The walk: the law returns true, and nothing that was there has turned. -/
theorem walk (a0 : Option Addr) (len0 cap0 : Nat) (z0 : List Int) (a1 : Option Addr) (len1 cap1 : Nat) (z1 : List Int) (w : World) (w0 : IsRow .u8 w a0 len0 cap0 z0) (w1 : IsRow .u8 w a1 len1 cap1 z1) (hg : w.cell? ⟨0, 0, none⟩ = some (.iface 74 (.agg #[.pointer (some ⟨1, 41, none⟩)]))) :
    Calls Tryd.prog 3 #[.slice a0 len0 cap0, .slice a1 len1 cap1] w fun e w' => e = .returned (.bool true) ∧ Below w.heap.size w w' := by
  by_cases hb0 : 1048576 < len0
  · have hl0 : (len0 : Int) ≤ 9223372036854775807 := by have := IsRow.len w0; omega
    go_enter Tryd.func3, Tryd.ntmps3
    go_wp2
    go_ret
    exact ⟨rfl, Below.refl _ _⟩
  by_cases hb1 : 1048576 < len1
  · have hl1 : (len1 : Int) ≤ 9223372036854775807 := by have := IsRow.len w1; omega
    go_enter Tryd.func3, Tryd.ntmps3
    go_wp2
    go_ret
    exact ⟨rfl, Below.refl _ _⟩
  have hlt : 0 < w.heap.size := by
    rcases Nat.eq_zero_or_pos w.heap.size with h0 | h
    · simp [World.cell?, h0] at hg
    · exact h
  have r0 := IsRow.rb w0 (by omega)
  have r1 := IsRow.rb w1 (by omega)
  clear w0 w1
  go_enter Tryd.func3, Tryd.ntmps3
  go_wp2_with (go_at_call 4; refine (drawPutNum_any w.heap.size a0 len0 cap0 _ r0 (Nat.le_refl _)).mono ?_; rintro e v1 ⟨n, rfl, hn, hv1⟩)
  have HP1 : Hid (∀ W : World, Calls Tryd.prog 5 #[.int .i64 n] W fun e w' => e = .returned (.string (putB n)) ∧ Below W.heap.size W w') := fun W => putNum_any n W hn
  have HP2 : Hid (∀ W : World, Calls Tryd.prog 6 #[.int .i64 n] W fun e w' => e = .returned (.string (putB n)) ∧ Below W.heap.size W w') := fun W => specPutNum_any n W hn
  have hT1 := putB_pos n
  have hT2 := putB_le10 hn
  have HF : Hid (getR ((⟨#[120, 121]⟩ : ByteArray) ++ putB n ++ ⟨#[122]⟩) 2 = (n, ((putB n).size : Int) + 2, 0)) := getR_front _ 120 121 122 hn (front_list _)
  have HL : Hid (getR ((putB n).extract 0 ((putB n).size - 1)) 0 = (0, 0, 4)) := getR_less _ hn (less_list _)
  generalize putB n = T at HP1 HP2 hT1 hT2 HF HL
  have hsl := slice_less T hT1 (by omega)
  have hlz : (T.extract 0 (T.size - 1)).size ≤ 8000 := by rw [ByteArray.size_extract]; omega
  have hfz : Hid (((⟨#[120, 121]⟩ : ByteArray) ++ T ++ ⟨#[122]⟩).size ≤ maxLen) := show _ ≤ _ by rw [front_size]; unfold maxLen; omega
  generalize T.extract 0 (T.size - 1) = L at HL hsl hlz
  have hLz : Hid (L.size ≤ maxLen) := show _ ≤ _ by unfold maxLen; omega
  have hfd := field_num 0 0 4
  have et : (T.toList == T.toList) = true := by simp
  have en : (n == n) = true := by simp
  go_wp2_with (first
    | (go_at_call 5; refine (HP1.out _).mono ?_; rintro e v2 ⟨rfl, hv2⟩)
    | (go_at_call 6; refine (HP2.out _).mono ?_; rintro e v3 ⟨rfl, hv3⟩; have hb3 := keepS (keepS hv1 (Nat.le_refl _) hv2) (Nat.le_refl _) hv3; have hg3 := (hb3.cell (p := ⟨0, 0, none⟩) hlt).trans hg))
  refine (getNum_any _ 2 _ hfz.out hg3).mono ?_
  rintro e v4 ⟨rfl, hv4⟩
  rw [HF.out]
  unfold numV
  have hb4 := keepS hb3 (Nat.le_refl _) hv4
  have hb4' := hb4.alloc hb4.size (.cells #[.int .i64 n, .int .i64 ((T.size : Int) + 2), .int .i64 0] 26)
  have hg4 := (hb4'.cell (p := ⟨0, 0, none⟩) hlt).trans hg
  clear hg3 HF hfz HP1 HP2
  go_wp2_with (first
    | (go_at_call 7; refine (getNum_any L 0 _ hLz.out hg4).mono ?_; rintro e v5 ⟨rfl, hv5⟩; rw [HL.out]; unfold numV; have hb5 := keepS hb4' (Nat.le_refl _) hv5; have hg5 := (hb5.cell (p := ⟨0, 0, none⟩) hlt).trans hg)
    | (go_at_call 8; refine (drawPutText_any w.heap.size a1 len1 cap1 _ (r1.blw hb5) hb5.size).mono ?_; rintro e v6 ⟨u, rfl, hu, hv6⟩; have hb6 := keepS hb5 (Nat.le_refl _) hv6))
  have hg6 := (hb6.cell (p := ⟨0, 0, none⟩) hlt).trans hg
  clear hg5 hg4 hfd hsl hlz hLz HL et en r0 r1
  rcases hu with hu | ⟨hu, hu2⟩
  · have HM : Hid (u.size ≤ maxLen) := show _ ≤ _ by unfold maxLen; omega
    have HP1 : Hid (∀ W : World, Calls Tryd.prog 9 #[.string u] W fun e w' => e = .returned (.string (putT u)) ∧ Below W.heap.size W w') := fun W => putText_any u W HM.out
    have HP2 : Hid (∀ W : World, Calls Tryd.prog 10 #[.string u] W fun e w' => e = .returned (.string (putT u)) ∧ Below W.heap.size W w') := fun W => specPutText_any u W HM.out
    obtain ⟨hQ1, hQ2⟩ := putT_pos u hu
    have HF : Hid (getT ((⟨#[120]⟩ : ByteArray) ++ putT u) 1 = (u, ((putT u).size : Int) + 1, 0)) := putT_front u hu
    have HL : Hid (getT ((putT u).extract 0 ((putT u).size - 1)) 0 = (ByteArray.empty, 0, 4)) := putT_less u hu
    generalize putT u = P at HP1 HP2 hQ1 hQ2 HF HL
    have hsl := slice_less P hQ1 (by omega)
    have hlz : (P.extract 0 (P.size - 1)).size ≤ 8000 := by rw [ByteArray.size_extract]; omega
    have hfz : Hid (((⟨#[120]⟩ : ByteArray) ++ P).size ≤ maxLen) := show _ ≤ _ by rw [x_size]; unfold maxLen; omega
    generalize P.extract 0 (P.size - 1) = M at HL hsl hlz
    have hMz : Hid (M.size ≤ maxLen) := show _ ≤ _ by unfold maxLen; omega
    have hfd := field_text ByteArray.empty 0 4
    have e1 : (P.toList == P.toList) = true := by simp
    have e2 : (P.toList == ([] : List UInt8)) = false := some_list P hQ1
    have e3 : (u.toList == u.toList) = true := by simp
    go_wp2_with (first
      | (go_at_call 9; refine (HP1.out _).mono ?_; rintro e v7 ⟨rfl, hv7⟩)
      | (go_at_call 10; refine (HP2.out _).mono ?_; rintro e v8 ⟨rfl, hv8⟩; have hb8 := keepS (keepS hb6 (Nat.le_refl _) hv7) (Nat.le_refl _) hv8; have hg8 := (hb8.cell (p := ⟨0, 0, none⟩) hlt).trans hg))
    refine (getText_any _ 1 _ hfz.out hg8).mono ?_
    rintro e v9 ⟨rfl, hv9⟩
    rw [HF.out]
    unfold textV
    have hb9 := keepS hb8 (Nat.le_refl _) hv9
    have hg9 := (hb9.cell (p := ⟨0, 0, none⟩) hlt).trans hg
    clear hg8 HF hfz HP1 HP2
    go_wp2_with (go_at_call 11; refine (getText_any M 0 _ hMz.out hg9).mono ?_; rintro e v10 ⟨rfl, hv10⟩; rw [HL.out]; unfold textV; have hb10 := keepS hb9 (Nat.le_refl _) hv10)
    go_ret
    exact ⟨rfl, hb10⟩
  · have HM : Hid (u.size ≤ maxLen) := show _ ≤ _ by unfold maxLen; omega
    have HP1 : Hid (∀ W : World, Calls Tryd.prog 9 #[.string u] W fun e w' => e = .returned (.string ByteArray.empty) ∧ Below W.heap.size W w') := fun W => by
      have := putText_any u W HM.out
      rwa [putT_big u hu] at this
    have HP2 : Hid (∀ W : World, Calls Tryd.prog 10 #[.string u] W fun e w' => e = .returned (.string ByteArray.empty) ∧ Below W.heap.size W w') := fun W => by
      have := specPutText_any u W HM.out
      rwa [putT_big u hu] at this
    go_wp2_with (first
      | (go_at_call 9; refine (HP1.out _).mono ?_; rintro e v7 ⟨rfl, hv7⟩; have hb7 := keepS hb6 (Nat.le_refl _) hv7)
      | (go_at_call 10; refine (HP2.out _).mono ?_; rintro e v8 ⟨rfl, hv8⟩; first | (have hb8 := keepS hb7 (Nat.le_refl _) hv8) | (have hb9 := keepS hb8 (Nat.le_refl _) hv8)))
    go_ret
    exact ⟨rfl, hb9⟩

set_option maxRecDepth 100000 in
theorem lifted (os : Os) (started : os.Started) (H : Type) (enc : TypeId × Value → H) :
    ReturnsInHanded {} Tryd.checked os 3 .any (fun w args => (Rows.fnNumsSpec.pre enc Tryd.prog Tryd.f3 [] false w args ∧ laidMetH Tryd.prog Rows.fnNumsRow.laid w) ∧ sizedMet enc Tryd.prog Tryd.f3 (OpenSpec.ofChange Rows.fnNumsSpec) false w args)
      (Rows.fnNumsSpec.post enc Tryd.prog Tryd.f3 false true false false) := by
  refine returnsInHanded_of_change_and (C := Tryd.checked) (X := fun w _ => laidMetH Tryd.prog Rows.fnNumsRow.laid w) (fun _ _ _ hh h => h.of_heap hh) own started (by kernel_rfl) Tryd.func3
    (ChangeSpec.witness_at (enc := enc) (C := Tryd.checked) (os := os) (X := fun w _ => laidMetH Tryd.prog Rows.fnNumsRow.laid w) false (laidWorld os) #[.slice none 0 0, .slice none 0 0] 8 rfl (by kernel_rfl) (by kernel_rfl) (by kernel_rfl) (by kernel_rfl) (by kernel_rfl) (laidWorld_met os _)) ?_
  intro W base args ds gs before hval0 hW _ _ hL _
  have hval : ∀ (j : Nat) t v, Tryd.f3.params[j]? = some t → args[j]? = some v → Value.okWide Tryd.prog W .any base t v := hval0
  have hW' := hW
  obtain ⟨p, q, hA0, hV0, rfl, hfz, hnd⟩ := hW
  have hA : DataW.TrodAll enc Tryd.prog W 0 (fun _ => true) true Tryd.f3.params.toList args.toList ds p := hA0
  have hV : DataW.TrodVars enc Tryd.prog W (fun _ => true) [] gs q := hV0
  rw [Tryd.params3] at hA hval
  obtain ⟨v0, vs0, d0, ds0, p0, q0, hargs, rfl, rfl, h0, r0⟩ := trodAll_cons hA
  obtain ⟨v1, vs1, d1, ds1, p1, q1, rfl, rfl, rfl, h1, r1⟩ := trodAll_cons r0
  obtain ⟨rfl, rfl, rfl⟩ := trodAll_nil r1
  obtain rfl : args = #[v0, v1] := by cases args; simp_all
  obtain ⟨rfl, rfl⟩ : gs = [] ∧ q = [] := by
    cases gs with
    | nil => exact ⟨rfl, hV⟩
    | cons g r => exact absurd hV (by intro h; cases h)
  obtain ⟨a0, len0, cap0, rfl⟩ := okWide_slice Tryd.underlying22 (hval 0 22 v0 rfl rfl)
  have k0 := h0
  have lt0 : ∀ x ∈ p0, x.block < W.heap.size := by obtain ⟨m, hm⟩ := k0; exact DataW.trod_lt m _ _ _ hm
  obtain ⟨z0, w0⟩ : ∃ zs, IsRow .u8 W a0 len0 cap0 zs := by
    obtain ⟨fuel, hf⟩ := h0
    rcases open_ints Tryd.underlying22 Tryd.underlying5 (by kernel_rfl) hf with ⟨hcs, _⟩ | ⟨x, l, c, zs, hcs, _, hl, hm, hz, _, hcell, hwz⟩
    · simp [Value.cells] at hcs
      obtain ⟨rfl, rfl, rfl⟩ := hcs
      exact ⟨[], .inl ⟨rfl, rfl, rfl, rfl⟩⟩
    · simp [Value.cells] at hcs
      obtain ⟨rfl, rfl, rfl⟩ := hcs
      exact ⟨zs, .inr ⟨_, rfl, hl, hm, by simpa using hz, hcell, hwz⟩⟩
  obtain ⟨a1, len1, cap1, rfl⟩ := okWide_slice Tryd.underlying22 (hval 1 22 v1 rfl rfl)
  have k1 := h1
  have lt1 : ∀ x ∈ p1, x.block < W.heap.size := by obtain ⟨m, hm⟩ := k1; exact DataW.trod_lt m _ _ _ hm
  obtain ⟨z1, w1⟩ : ∃ zs, IsRow .u8 W a1 len1 cap1 zs := by
    obtain ⟨fuel, hf⟩ := h1
    rcases open_ints Tryd.underlying22 Tryd.underlying5 (by kernel_rfl) hf with ⟨hcs, _⟩ | ⟨x, l, c, zs, hcs, _, hl, hm, hz, _, hcell, hwz⟩
    · simp [Value.cells] at hcs
      obtain ⟨rfl, rfl, rfl⟩ := hcs
      exact ⟨[], .inl ⟨rfl, rfl, rfl, rfl⟩⟩
    · simp [Value.cells] at hcs
      obtain ⟨rfl, rfl, rfl⟩ := hcs
      exact ⟨zs, .inr ⟨_, rfl, hl, hm, by simpa using hz, hcell, hwz⟩⟩
  have hg := handle_of_laid hL
  clear hA0 hval0
  refine (walk a0 len0 cap0 z0 a1 len1 cap1 z1 W w0 w1 hg).mono fun e W' ⟨he, bel⟩ => ?_
  subst he
  exact ⟨_, rfl, _, _, _, [], _, [], hW', trodAll_mk1 (shut_bool Tryd.underlying4 _), (trodAll_cons_mk (Below.trod laidOut (by kernel_rfl) (of_decide_eq_true (by kernel_rfl)) k0 bel lt0) (trodAll_cons_mk (Below.trod laidOut (by kernel_rfl) (of_decide_eq_true (by kernel_rfl)) k1 bel lt1) trodAll_mk0)), rfl, bel.frame _, fun h => by cases h⟩

theorem said : Rows.FnNumsSaid :=
  OpenClaim.holds_of_wide 3 Tryd.f3 rfl rfl rfl rfl rfl rfl rfl ⟨rfl, rfl, rfl, rfl, rfl⟩ rfl rfl rfl rfl rfl (by kernel_rfl) Tryd.func3 (by kernel_rfl)
    (of_decide_eq_true (by kernel_rfl)) (by unfold Func.isWrapper; first | (rw [if_pos (by decide +kernel)]; kernel_rfl) | (rw [if_neg (by decide +kernel)]; exact ⟨rfl, rfl⟩))
    (fun os started H enc _ => lifted os started H enc)

/-- The statement: the tied card. -/
theorem proved : Rows.FnNumsCardSaid :=
  Claim7.holds_tied_plain_at .later [] _ _ _ _ said (fun _ h => by cases h) (by kernel_rfl) (fun _ h => by cases h) fnNums_row_tie rfl ⟨rfl, rfl⟩ (by kernel_rfl) rfl
    (fun f fn hf hfn => by
      obtain rfl : f = 3 := Option.some.inj ((show Tryd.prog.funcNamed "loop.example/g00556/laws.FnNums" = some 3 by kernel_rfl).symm.trans hf) |>.symm
      obtain rfl : fn = Tryd.f3 := (Option.some.inj (Tryd.func3.symm.trans hfn)).symm
      exact ⟨by kernel_rfl, fun j t ht => by
        rw [Tryd.params3] at ht
        have h3 : t = 22 := by simpa using Array.mem_of_getElem? ht
        rcases h3 with rfl
        · exact (show Tryd.prog.wantsStandIn 22 = false by kernel_rfl)⟩)
    (by kernel_rfl)
#print axioms proved
end Go.Proofs.YtpejljjjfplmlaaDoor.fnNums
