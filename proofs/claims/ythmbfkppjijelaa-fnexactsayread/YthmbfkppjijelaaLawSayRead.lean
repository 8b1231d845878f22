/- FnExactSayRead: at every text the program's SayRead answers as the model's, each field; its answer owns its memory, behind another call too; no condition. -/
import Derived.Test.YthmbfkppjijelaaRows
import Derived.Test.YthmbfkppjijelaaSayO
import Derived.WalkKit
import Derived.WalkSpells
import Derived.ProofKit
import Derived.OpenShut
import Derived.ShutString
import Derived.ChangeOld
import Derived.Below
import Derived.Outline
import Derived.Deep.RegionHeld3
import Derived.Deep.RegionWith
import Derived.Deep.DeepCutAuto
namespace Go.Proofs.Ythmbfkppjijelaa.fnExactSayRead
open Go.ChangeShapes Go.WideShapes Go.ChangeAt Go.RowKit
open Go.ChangeMaps (open_string shut_string)
set_option linter.unusedVariables false

theorem own : ownKnob Try.prog.godebug = none := by kernel_rfl
theorem laidOut : laidOutB Try.prog = true := by kernel_rfl

set_option maxRecDepth 100000 in
set_option maxHeartbeats 1600000 in
/-- The walk: the law returns true, and nothing that was there has turned. -/
theorem walk (a0 : ByteArray) (w : World) (w0 : a0.size ≤ maxLen) :
    Calls Try.prog 6 #[.string a0] w fun e w' => e = .returned (.bool true) ∧ Below w.heap.size w w' := by
  have hm := w0
  unfold maxLen at hm
  by_cases hb : 1048576 < a0.size
  · go_enter Try.func6, Try.ntmps6
    go_wp2
    go_ret
    exact ⟨rfl, Below.refl _ _⟩
  have HS := fun W => specSayRead_any a0 W w0
  have HI := fun W => sayRead_any a0 W w0
  have hln := sayRes_len a0
  generalize sayRes a0 = X at HS HI hln
  obtain ⟨y, c⟩ := X
  simp only at HS HI hln
  have HS' : Hid (∀ W : World, Calls Try.prog 15 #[.string a0] W fun e w' => ∃ v, e = .returned (.agg #[.int .i64 y.k, .int .i64 y.f, .int .i64 y.t, .int .i64 y.s.g, .int .i64 y.s.o, .int .i64 y.s.b, .int .i64 y.s.h, v, .string y.b, .int .i64 c]) ∧ OwnI w' W.heap.size v y.ws ∧ Below W.heap.size W w') := HS
  have HI' : Hid (∀ W : World, Calls Try.prog 10 #[.string a0] W fun e w' => ∃ v, e = .returned (.agg #[.int .i64 y.k, .int .i64 y.f, .int .i64 y.t, .int .i64 y.s.g, .int .i64 y.s.o, .int .i64 y.s.b, .int .i64 y.s.h, v, .string y.b, .int .i64 c]) ∧ OwnI w' W.heap.size v y.ws ∧ Below W.heap.size W w') := HI
  clear HS HI w0
  go_enter Try.func6, Try.ntmps6
  go_upto_region 5 with (first
    | (go_at_call 15; refine (HS'.out _).mono ?_; rintro e v1 ⟨uS, rfl, hoS, hb1⟩; obtain ⟨pS, cS, rfl⟩ := hoS.shape; have a1 := all_alloc v1 (.cells #[.int .i64 y.k, .int .i64 y.f, .int .i64 y.t, .int .i64 y.s.g, .int .i64 y.s.o, .int .i64 y.s.b, .int .i64 y.s.h, .slice pS y.ws.length cS, .string y.b, .int .i64 c] 32); have hS1 := heap_alloc_new v1 (.cells #[.int .i64 y.k, .int .i64 y.f, .int .i64 y.t, .int .i64 y.s.g, .int .i64 y.s.o, .int .i64 y.s.b, .int .i64 y.s.h, .slice pS y.ws.length cS, .string y.b, .int .i64 c] 32); have oS1 := hoS.below a1; have k1 := keepB hb1 (Nat.le_refl _) a1)
    | (go_at_call 10; refine (HI'.out _).mono ?_; rintro e v2 ⟨uG, rfl, hoG, hb2⟩; obtain ⟨pG, cG, rfl⟩ := hoG.shape; have a2 := all_alloc v2 (.cells #[.int .i64 y.k, .int .i64 y.f, .int .i64 y.t, .int .i64 y.s.g, .int .i64 y.s.o, .int .i64 y.s.b, .int .i64 y.s.h, .slice pG y.ws.length cG, .string y.b, .int .i64 c] 32); have hG2 := heap_alloc_new v2 (.cells #[.int .i64 y.k, .int .i64 y.f, .int .i64 y.t, .int .i64 y.s.g, .int .i64 y.s.o, .int .i64 y.s.b, .int .i64 y.s.h, .slice pG y.ws.length cG, .string y.b, .int .i64 c] 32); have oG2 := hoG.below a2; have hS2 := blk (blk hS1 hb2) a2; have b12 := keepB hb2 (Nat.le_refl _) a2))
  have hGlt : ∀ k, (Value.slice pG y.ws.length cG).ownBlock = some k → k < v2.heap.size := fun k h => (World.ownsRow.lt hoG k h).2
  have hAl : (v1.alloc (.cells #[.int .i64 y.k, .int .i64 y.f, .int .i64 y.t, .int .i64 y.s.g, .int .i64 y.s.o, .int .i64 y.s.b, .int .i64 y.s.h, .slice pS y.ws.length cS, .string y.b, .int .i64 c] 32)).heap.size ≤ v2.heap.size := hb2.size
  have hSl := (Array.getElem?_eq_some_iff.1 hS1).1
  clear a1 a2 hb1 hb2 hoS hoG HS'
  generalize hA2 : v2.alloc (.cells #[.int .i64 y.k, .int .i64 y.f, .int .i64 y.t, .int .i64 y.s.g, .int .i64 y.s.o, .int .i64 y.s.b, .int .i64 y.s.h, .slice pG y.ws.length cG, .string y.b, .int .i64 c] 32) = A2 at hG2 oG2 hS2 b12 ⊢
  generalize hA1 : v1.alloc (.cells #[.int .i64 y.k, .int .i64 y.f, .int .i64 y.t, .int .i64 y.s.g, .int .i64 y.s.o, .int .i64 y.s.b, .int .i64 y.s.h, .slice pS y.ws.length cS, .string y.b, .int .i64 c] 32) = A1 at hS1 oS1 k1 oG2 b12 hAl hSl
  generalize v2.heap.size = G at hG2 hGlt hAl ⊢
  generalize v1.heap.size = S at hS1 hS2 hSl ⊢
  clear hA1 hA2
  have s0 := cellW hS2 0 _ rfl A2 (Below.refl _ _); have s1 := cellW hS2 1 _ rfl A2 (Below.refl _ _); have s2 := cellW hS2 2 _ rfl A2 (Below.refl _ _); have s3 := cellW hS2 3 _ rfl A2 (Below.refl _ _); have s4 := cellW hS2 4 _ rfl A2 (Below.refl _ _); have s5 := cellW hS2 5 _ rfl A2 (Below.refl _ _); have s6 := cellW hS2 6 _ rfl A2 (Below.refl _ _); have s7 := cellW hS2 7 _ rfl A2 (Below.refl _ _); have s8 := cellW hS2 8 _ rfl A2 (Below.refl _ _); have s9 := cellW hS2 9 _ rfl A2 (Below.refl _ _)
  have g0 := cellW hG2 0 _ rfl A2 (Below.refl _ _); have g1 := cellW hG2 1 _ rfl A2 (Below.refl _ _); have g2 := cellW hG2 2 _ rfl A2 (Below.refl _ _); have g3 := cellW hG2 3 _ rfl A2 (Below.refl _ _); have g4 := cellW hG2 4 _ rfl A2 (Below.refl _ _); have g5 := cellW hG2 5 _ rfl A2 (Below.refl _ _); have g6 := cellW hG2 6 _ rfl A2 (Below.refl _ _); have g7 := cellW hG2 7 _ rfl A2 (Below.refl _ _); have g8 := cellW hG2 8 _ rfl A2 (Below.refl _ _); have g9 := cellW hG2 9 _ rfl A2 (Below.refl _ _)
  go_upto_region 8 with (go_at_call 24; refine (eqSayOut_same y c _ _ _ (by omega) oG2.row (oS1.below b12).row).mono ?_; rintro e v3 ⟨rfl, hb3⟩)
  clear s0 s1 s2 s3 s4 s5 s6 s7 s8 s9 g0 g1 g2 g3 g4 g5 g6 g7 g8 g9
  have hG3 := blk hG2 hb3
  have hS3 := blk hS2 hb3
  have oG3 := oG2.below hb3
  have b13 := keepB b12 (Nat.le_refl _) hb3
  have g0 := cellW hG3 0 _ rfl v3 (Below.refl _ _); have g1 := cellW hG3 1 _ rfl v3 (Below.refl _ _); have g2 := cellW hG3 2 _ rfl v3 (Below.refl _ _); have g3 := cellW hG3 3 _ rfl v3 (Below.refl _ _); have g4 := cellW hG3 4 _ rfl v3 (Below.refl _ _); have g5 := cellW hG3 5 _ rfl v3 (Below.refl _ _); have g6 := cellW hG3 6 _ rfl v3 (Below.refl _ _); have g7 := cellW hG3 7 _ rfl v3 (Below.refl _ _); have g8 := cellW hG3 8 _ rfl v3 (Below.refl _ _); have g9 := cellW hG3 9 _ rfl v3 (Below.refl _ _)
  go_upto_region 10 with (go_at_call 25; refine (markSayOut_any y c _ _ _ (by omega) oG3).mono ?_; rintro e v4 ⟨rfl, oG4, gr4⟩)
  clear g0 g1 g2 g3 g4 g5 g6 g7 g8 g9
  have hk4 : ∀ k, k < A1.heap.size → v4.heap[k]? = A1.heap[k]? := fun k hk => (gr4.block k (Nat.lt_of_lt_of_le hk b13.size) (fun e => by have := (World.ownsRow.lt oG3 k e.symm).1; omega)).trans (b13.block k hk)
  have hS4 := (hk4 S hSl).trans hS1
  have oS4 := oS1.of_keep hk4
  have hG4 := (gr4.block G (Array.getElem?_eq_some_iff.1 hG3).1 (fun e => absurd (hGlt G e.symm) (Nat.lt_irrefl _))).trans hG3
  have bw3 := keepB k1 (Nat.le_refl _) b13
  have bw4 : Below w.heap.size w v4 := bw3.grown gr4 bw3.size (fun k e => by have := (World.ownsRow.lt oG3 k e).1; have := k1.size; omega)
  have tq : ¬ 1 + (y.ws.length : Int) < 0 := by omega
  have tm : ((1 + (y.ws.length : Int)) != (1 + (y.ws.length : Int))) = false := by simp
  clear gr4 hG3 hS3 oG3 b13 hG2 hS2 oG2 b12 hk4
  have g0 := cellW hG4 0 _ rfl v4 (Below.refl _ _); have g1 := cellW hG4 1 _ rfl v4 (Below.refl _ _); have g2 := cellW hG4 2 _ rfl v4 (Below.refl _ _); have g3 := cellW hG4 3 _ rfl v4 (Below.refl _ _); have g4 := cellW hG4 4 _ rfl v4 (Below.refl _ _); have g5 := cellW hG4 5 _ rfl v4 (Below.refl _ _); have g6 := cellW hG4 6 _ rfl v4 (Below.refl _ _); have g7 := cellW hG4 7 _ rfl v4 (Below.refl _ _); have g8 := cellW hG4 8 _ rfl v4 (Below.refl _ _); have g9 := cellW hG4 9 _ rfl v4 (Below.refl _ _)
  go_upto_region 15 with (go_at_call 26; refine (heldSayOut_any y c _ _ _ (by omega) oG4).mono ?_; rintro e v5 ⟨rfl, hb5⟩)
  clear g0 g1 g2 g3 g4 g5 g6 g7 g8 g9
  have hG5 := blk hG4 hb5
  have hS5 := blk hS4 hb5
  have oG5 := oG4.below hb5
  have oS5 := oS4.below hb5
  have bw5 := keepB bw4 (Nat.le_refl _) hb5
  go_upto_region 16 with (go_at_call 10; refine (HI'.out _).mono ?_; rintro e v6 ⟨uH, rfl, hoH, hb6⟩; obtain ⟨pH, cH, rfl⟩ := hoH.shape)
  have a6 := all_alloc v6 (.cells #[.int .i64 y.k, .int .i64 y.f, .int .i64 y.t, .int .i64 y.s.g, .int .i64 y.s.o, .int .i64 y.s.b, .int .i64 y.s.h, .slice pH y.ws.length cH, .string y.b, .int .i64 c] 32)
  have b56 := keepB hb6 (Nat.le_refl _) a6
  have hH6 := heap_alloc_new v6 (.cells #[.int .i64 y.k, .int .i64 y.f, .int .i64 y.t, .int .i64 y.s.g, .int .i64 y.s.o, .int .i64 y.s.b, .int .i64 y.s.h, .slice pH y.ws.length cH, .string y.b, .int .i64 c] 32)
  have oH6 := hoH.below a6
  generalize v6.alloc (.cells #[.int .i64 y.k, .int .i64 y.f, .int .i64 y.t, .int .i64 y.s.g, .int .i64 y.s.o, .int .i64 y.s.b, .int .i64 y.s.h, .slice pH y.ws.length cH, .string y.b, .int .i64 c] 32) = A6 at a6 b56 hH6 oH6 ⊢
  generalize v6.heap.size = HH at hH6 ⊢
  have hG6 := blk hG5 b56
  have hS6 := blk hS5 b56
  have oG6 := oG5.below b56
  have oS6 := oS5.below b56
  have bw6 := keepB bw5 (Nat.le_refl _) b56
  have s0 := cellW hS6 0 _ rfl A6 (Below.refl _ _); have s1 := cellW hS6 1 _ rfl A6 (Below.refl _ _); have s2 := cellW hS6 2 _ rfl A6 (Below.refl _ _); have s3 := cellW hS6 3 _ rfl A6 (Below.refl _ _); have s4 := cellW hS6 4 _ rfl A6 (Below.refl _ _); have s5 := cellW hS6 5 _ rfl A6 (Below.refl _ _); have s6 := cellW hS6 6 _ rfl A6 (Below.refl _ _); have s7 := cellW hS6 7 _ rfl A6 (Below.refl _ _); have s8 := cellW hS6 8 _ rfl A6 (Below.refl _ _); have s9 := cellW hS6 9 _ rfl A6 (Below.refl _ _)
  have h0 := cellW hH6 0 _ rfl A6 (Below.refl _ _); have h1 := cellW hH6 1 _ rfl A6 (Below.refl _ _); have h2 := cellW hH6 2 _ rfl A6 (Below.refl _ _); have h3 := cellW hH6 3 _ rfl A6 (Below.refl _ _); have h4 := cellW hH6 4 _ rfl A6 (Below.refl _ _); have h5 := cellW hH6 5 _ rfl A6 (Below.refl _ _); have h6 := cellW hH6 6 _ rfl A6 (Below.refl _ _); have h7 := cellW hH6 7 _ rfl A6 (Below.refl _ _); have h8 := cellW hH6 8 _ rfl A6 (Below.refl _ _); have h9 := cellW hH6 9 _ rfl A6 (Below.refl _ _)
  go_upto_region 19 with (go_at_call 24; refine (eqSayOut_same y c _ _ _ (by omega) oH6.row oS6.row).mono ?_; rintro e v7 ⟨rfl, hb7⟩)
  clear s0 s1 s2 s3 s4 s5 s6 s7 s8 s9 h0 h1 h2 h3 h4 h5 h6 h7 h8 h9
  have hG7 := blk hG6 hb7
  have oG7 := oG6.below hb7
  have g0 := cellW hG7 0 _ rfl v7 (Below.refl _ _); have g1 := cellW hG7 1 _ rfl v7 (Below.refl _ _); have g2 := cellW hG7 2 _ rfl v7 (Below.refl _ _); have g3 := cellW hG7 3 _ rfl v7 (Below.refl _ _); have g4 := cellW hG7 4 _ rfl v7 (Below.refl _ _); have g5 := cellW hG7 5 _ rfl v7 (Below.refl _ _); have g6 := cellW hG7 6 _ rfl v7 (Below.refl _ _); have g7 := cellW hG7 7 _ rfl v7 (Below.refl _ _); have g8 := cellW hG7 8 _ rfl v7 (Below.refl _ _); have g9 := cellW hG7 9 _ rfl v7 (Below.refl _ _)
  go_wp2_with (go_at_call 26; refine (heldSayOut_any y c _ _ _ (by omega) oG7).mono ?_; rintro e v8 ⟨rfl, hb8⟩)
  go_ret
  exact ⟨rfl, keepB (keepB bw6 (Nat.le_refl _) hb7) (Nat.le_refl _) hb8⟩

set_option maxRecDepth 100000 in
theorem lifted (os : Os) (started : os.Started) (H : Type) (enc : TypeId × Value → H) :
    ReturnsInHanded {} Try.checked os 6 .any (Rows.fnExactSayReadSpec.pre6 enc Try.prog Try.f6 Rows.fnExactSayReadRow.domain false) (Rows.fnExactSayReadSpec.post enc Try.prog Try.f6 false true false false) := by
  refine returnsInHanded_of_change (C := Try.checked) own started (by kernel_rfl) Try.func6
    (ChangeSpec.witness6 (enc := enc) (C := Try.checked) false ⟨#[], #[.string ByteArray.empty], []⟩ 8 (by kernel_rfl) (by kernel_rfl) (by kernel_rfl) (by kernel_rfl)) ?_
  intro W base args ds gs before hval0 hW hcnd _
  have hval : ∀ (j : Nat) t v, Try.f6.params[j]? = some t → args[j]? = some v → Value.okWide Try.prog W .any base t v := hval0
  have hW' := hW
  obtain ⟨p, q, hA0, hV, rfl, hfz, hnd⟩ := hW
  have hA : DataW.TrodAll enc Try.prog W 0 (fun _ => true) true Try.f6.params.toList args.toList ds p := hA0
  rw [Try.params6] at hA hval
  obtain ⟨v0, vs0, d0, ds0, p0, q0, hargs, rfl, rfl, h0, r0⟩ := trodAll_cons hA
  obtain ⟨rfl, rfl, rfl⟩ := trodAll_nil r0
  obtain rfl : args = #[v0] := by cases args; simp_all
  obtain ⟨rfl, rfl⟩ := trodVars_none hV
  obtain ⟨a0, rfl, rfl, rfl, w0⟩ := open_string Try.underlying9 (hval 0 9 v0 rfl rfl) h0
  clear hA0 hval0
  refine (walk a0 W w0).mono fun e W' ⟨he, bel⟩ => ?_
  subst he
  exact ⟨_, rfl, _, _, _, [], _, [], hW', trodAll_mk1 (shut_bool Try.underlying4 _), (trodAll_cons_mk (shut_string Try.underlying9 w0) trodAll_mk0), rfl, bel.frame _, fun h => by cases h⟩

/-- The statement. -/
theorem proved : Rows.FnExactSayReadSaid :=
  OpenClaim.holds_of_wide 6 Try.f6 rfl rfl rfl rfl rfl rfl rfl ⟨rfl, rfl, rfl, rfl, rfl⟩ rfl rfl rfl rfl rfl (by kernel_rfl) Try.func6 (by kernel_rfl)
    (of_decide_eq_true (by kernel_rfl)) (by unfold Func.isWrapper; first | (rw [if_pos (by decide +kernel)]; kernel_rfl) | (rw [if_neg (by decide +kernel)]; exact ⟨rfl, rfl⟩))
    (fun os started H enc _ => lifted os started H enc)
#print axioms proved
end Go.Proofs.Ythmbfkppjijelaa.fnExactSayRead
