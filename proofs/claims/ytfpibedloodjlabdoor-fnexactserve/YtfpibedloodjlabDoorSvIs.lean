/- errors.Is OVER SENTINELS of errors.New's make: the same one, another one; and which exception an error is. -/
import Derived.Test.YtfpibedloodjlabDoorProg
import Derived.Test.YtfpibedloodjlabDoorInts
import Derived.WalkKit
import Derived.WalkSpells
import Derived.Outline
import Derived.Below
import Derived.LaidEql
import Derived.Stop.Asserts
import Derived.RowKitTokens
namespace Go.Proofs.YtfpibedloodjlabDoor
open Go.RowKit Go.Extern.Stop Go.Stop Go.Extern
set_option linter.unusedVariables false
set_option linter.unusedSimpArgs false

theorem isTypeOf (v : Value) (w : World) : (Extern.ReflectliteType.typeOf #[.iface 108 v]).run Tryd.prog w = .ok (.iface 98 (.agg #[.pointer (some ⟨3, 108, none⟩)])) w := by kernel_rfl
def cmpM : Array Value → Sem Value := Extern.ReflectliteType.method fun t => do Extern.Rtype.noPackHeld "Comparable" t; pure (.bool (← typeInfo t).comparable)
theorem isComparable (w : World) : (cmpM #[.agg #[.pointer (some ⟨3, 108, none⟩)]]).run Tryd.prog w = .ok (.bool true) w := by kernel_rfl
theorem isMethodComparable (v : Value) (w : World) : (Go.method 246 98 v "Comparable").run Tryd.prog w = .ok (97, v) w := by kernel_rfl
theorem isComp : (Tryd.prog.info? 108).map (·.comparable) = some true := by kernel_rfl
theorem isSize : (Tryd.prog.info? 134).map (·.size) = some 1 := by kernel_rfl
theorem noIsE (v : Value) (xT : TypeId) (w : World) : (Instr.typeAssert (.iface 108 v) xT 100 true).run Tryd.prog w = .ok (.tuple #[.nilIface, .bool false]) w := run_typeAssert_lacksB Tryd.underlying100 (by kernel_rfl) (by kernel_rfl) v xT w
theorem noUnwrapE (v : Value) (xT : TypeId) (w : World) : (Instr.typeAssert (.iface 108 v) xT 103 true).run Tryd.prog w = .ok (.tuple #[.nilIface, .bool false]) w := run_typeAssert_lacksB Tryd.underlying103 (by kernel_rfl) (by kernel_rfl) v xT w
theorem noUnwrapsE (v : Value) (xT : TypeId) (w : World) : (Instr.typeAssert (.iface 108 v) xT 105 true).run Tryd.prog w = .ok (.tuple #[.nilIface, .bool false]) w := run_typeAssert_lacksB Tryd.underlying105 (by kernel_rfl) (by kernel_rfl) v xT w
set_option maxRecDepth 100000 in
theorem is_same (a : Addr) (w : World) :
    Calls Tryd.prog 56 #[.iface 108 (.pointer (some a)), .iface 108 (.pointer (some a))] w fun e w' => e = .returned (.bool true) ∧ w = w' := by
  obtain ⟨i, hi, hcmp⟩ := Option.map_eq_some_iff.1 isComp
  obtain ⟨j, hj, hjs⟩ := Option.map_eq_some_iff.1 isSize
  have h8 := @run_callFunc_extern Tryd.prog 69 _ Extern.ReflectliteType.typeOf Tryd.func69 (by kernel_rfl) (by kernel_rfl) (by kernel_rfl) (by kernel_rfl)
  have h32 := @run_callFunc_extern Tryd.prog 97 _ cmpM Tryd.func97 (by kernel_rfl) (by kernel_rfl) (by kernel_rfl) (by kernel_rfl)
  have tT := isTypeOf
  have cT := isComparable
  have mR := isMethodComparable
  have heq := run_eql_iface_ptr_same (P := Tryd.prog) w a Tryd.underlying47 Tryd.underlying108 hi hcmp hj
  go_enter Tryd.func56, Tryd.ntmps56
  go_wp2
  refine wp_loop_rounds 1 ?_
  rw [rounds_succ]
  go_wp2
  go_ret
  exact ⟨rfl, rfl⟩
set_option maxRecDepth 100000 in
theorem is_other (a b : Addr) (ca cb : Array Value) (ta tb : TypeId) (w : World) (hne : a ≠ b) (ha : w.heap[a.block]? = some (.cells ca ta (0, 0))) (hb : w.heap[b.block]? = some (.cells cb tb (0, 0))) :
    Calls Tryd.prog 56 #[.iface 108 (.pointer (some a)), .iface 108 (.pointer (some b))] w fun e w' => e = .returned (.bool false) ∧ w = w' := by
  obtain ⟨i, hi, hcmp⟩ := Option.map_eq_some_iff.1 isComp
  obtain ⟨j, hj, hjs⟩ := Option.map_eq_some_iff.1 isSize
  have h8 := @run_callFunc_extern Tryd.prog 69 _ Extern.ReflectliteType.typeOf Tryd.func69 (by kernel_rfl) (by kernel_rfl) (by kernel_rfl) (by kernel_rfl)
  have h32 := @run_callFunc_extern Tryd.prog 97 _ cmpM Tryd.func97 (by kernel_rfl) (by kernel_rfl) (by kernel_rfl) (by kernel_rfl)
  have tT := isTypeOf
  have cT := isComparable
  have mR := isMethodComparable
  have nE := noIsE
  have uE := noUnwrapE
  have vE := noUnwrapsE
  have heq := run_eql_iface_ptr_other (P := Tryd.prog) w Tryd.underlying47 Tryd.underlying108 hi hcmp hj (by rw [hjs]; decide) hne ha hb
  go_enter Tryd.func56, Tryd.ntmps56
  go_wp2
  refine wp_loop_rounds 1 ?_
  rw [rounds_succ]
  go_wp2
  go_ret
  exact ⟨rfl, rfl⟩
/-- what the three sentinels' variables hold, and that they lie apart -/
structure Sents (w : World) (f v p : Addr) : Prop where
  gf : w.cell? ⟨0, 0, none⟩ = some (.iface 108 (.pointer (some f)))
  gv : w.cell? ⟨1, 0, none⟩ = some (.iface 108 (.pointer (some v)))
  gp : w.cell? ⟨2, 0, none⟩ = some (.iface 108 (.pointer (some p)))
  bf : ∃ c t, w.heap[f.block]? = some (.cells c t (0, 0))
  bv : ∃ c t, w.heap[v.block]? = some (.cells c t (0, 0))
  bp : ∃ c t, w.heap[p.block]? = some (.cells c t (0, 0))
  fv : f ≠ v
  fp : f ≠ p
  vp : v ≠ p
theorem Sents.lt {w : World} {f v p : Addr} (h : Sents w f v p) : 2 < w.heap.size := World.block_lt_of_cell? _ _ h.gp
theorem Sents.below {w w' : World} {f v p : Addr} (h : Sents w f v p) (hb : Below w.heap.size w w') : Sents w' f v p := by
  have h2 := h.lt
  obtain ⟨c1, t1, e1⟩ := h.bf
  obtain ⟨c2, t2, e2⟩ := h.bv
  obtain ⟨c3, t3, e3⟩ := h.bp
  exact ⟨(hb.cell (p := ⟨0, 0, none⟩) (by simp only; omega)).trans h.gf, (hb.cell (p := ⟨1, 0, none⟩) (by simp only; omega)).trans h.gv, (hb.cell (p := ⟨2, 0, none⟩) (by simp only; omega)).trans h.gp,
    ⟨c1, t1, (hb.block _ (Array.getElem?_eq_some_iff.1 e1).1).trans e1⟩, ⟨c2, t2, (hb.block _ (Array.getElem?_eq_some_iff.1 e2).1).trans e2⟩, ⟨c3, t3, (hb.block _ (Array.getElem?_eq_some_iff.1 e3).1).trans e3⟩, h.fv, h.fp, h.vp⟩
set_option maxRecDepth 100000 in
theorem exceptionOf_f (f v p : Addr) (w : World) (h : Sents w f v p) :
    Calls Tryd.prog 42 #[.iface 108 (.pointer (some f))] w fun e w' => e = .returned (.int .u8 1) ∧ w = w' := by
  have H1 : Hid (Calls Tryd.prog 56 #[.iface 108 (.pointer (some f)), .iface 108 (.pointer (some f))] w fun e w' => e = .returned (.bool true) ∧ w = w') := is_same f w
  have g0 := h.gf
  clear h
  go_enter Tryd.func42, Tryd.ntmps42
  go_wp2_with (go_at_call 56; refine H1.out.mono ?_; rintro e w1 ⟨rfl, rfl⟩)
  go_ret
  exact ⟨rfl, rfl⟩
set_option maxRecDepth 100000 in
theorem exceptionOf_p (f v p : Addr) (w : World) (h : Sents w f v p) :
    Calls Tryd.prog 42 #[.iface 108 (.pointer (some p))] w fun e w' => e = .returned (.int .u8 2) ∧ w = w' := by
  obtain ⟨c1, t1, e1⟩ := h.bf
  obtain ⟨c3, t3, e3⟩ := h.bp
  have H1 : Hid (Calls Tryd.prog 56 #[.iface 108 (.pointer (some p)), .iface 108 (.pointer (some f))] w fun e w' => e = .returned (.bool false) ∧ w = w') := is_other p f c3 c1 t3 t1 w (Ne.symm h.fp) e3 e1
  have H2 : Hid (Calls Tryd.prog 56 #[.iface 108 (.pointer (some p)), .iface 108 (.pointer (some p))] w fun e w' => e = .returned (.bool true) ∧ w = w') := is_same p w
  have g0 := h.gf
  have g2 := h.gp
  clear h e1 e3
  go_enter Tryd.func42, Tryd.ntmps42
  go_wp2_with (first
    | (have _ := hD; go_at_call 56; refine H2.out.mono ?_; rintro e w1 ⟨rfl, rfl⟩)
    | (go_at_call 56; refine H1.out.mono ?_; rintro e w1 ⟨rfl, rfl⟩; have hD : Hid True := trivial))
  go_ret
  exact ⟨rfl, rfl⟩
set_option maxRecDepth 100000 in
theorem exceptionOf_v (f v p : Addr) (w : World) (h : Sents w f v p) :
    Calls Tryd.prog 42 #[.iface 108 (.pointer (some v))] w fun e w' => e = .returned (.int .u8 3) ∧ w = w' := by
  obtain ⟨c1, t1, e1⟩ := h.bf
  obtain ⟨c2, t2, e2⟩ := h.bv
  obtain ⟨c3, t3, e3⟩ := h.bp
  have H1 : Hid (Calls Tryd.prog 56 #[.iface 108 (.pointer (some v)), .iface 108 (.pointer (some f))] w fun e w' => e = .returned (.bool false) ∧ w = w') := is_other v f c2 c1 t2 t1 w (Ne.symm h.fv) e2 e1
  have H2 : Hid (Calls Tryd.prog 56 #[.iface 108 (.pointer (some v)), .iface 108 (.pointer (some p))] w fun e w' => e = .returned (.bool false) ∧ w = w') := is_other v p c2 c3 t2 t3 w h.vp e2 e3
  have g0 := h.gf
  have g2 := h.gp
  clear h e1 e2 e3
  go_enter Tryd.func42, Tryd.ntmps42
  go_wp2_with (first
    | (have _ := hD; go_at_call 56; refine H2.out.mono ?_; rintro e w1 ⟨rfl, rfl⟩)
    | (go_at_call 56; refine H1.out.mono ?_; rintro e w1 ⟨rfl, rfl⟩; have hD : Hid True := trivial))
  go_ret
  exact ⟨rfl, rfl⟩
end Go.Proofs.YtfpibedloodjlabDoor
