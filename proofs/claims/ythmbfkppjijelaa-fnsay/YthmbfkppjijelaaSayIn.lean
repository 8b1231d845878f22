/- WHAT IS SAID THAT CAME IN: opened, copied, counted and held against another by the law itself. -/
import Derived.Test.YthmbfkppjijelaaStL
import Derived.Test.YthmbfkppjijelaaIntsIn
import Derived.Test.YthmbfkppjijelaaPlainSay
import Derived.Test.YthmbfkppjijelaaBox
import Derived.WalkKit
import Derived.WalkSpells
import Derived.Outline
import Derived.Below
import Derived.OpenShut
import Derived.ShutString
import Derived.ChangeOld
import Derived.Lib.SmallJoins
import Derived.Deep.RegionHeld3
import Derived.Deep.DeepCutAuto
namespace Go.Proofs.Ythmbfkppjijelaa
open Go.RowKit Go.ChangeShapes Go.WideShapes Go.ChangeAt
set_option linter.unusedVariables false
set_option linter.unusedSimpArgs false

theorem array9 {α : Type} {cs : Array α} (h : cs.size = 9) : ∃ c0 c1 c2 c3 c4 c5 c6 c7 c8, cs = #[c0, c1, c2, c3, c4, c5, c6, c7, c8] := by
  obtain ⟨l⟩ := cs
  match l, h with
  | [c0, c1, c2, c3, c4, c5, c6, c7, c8], _ => exact ⟨c0, c1, c2, c3, c4, c5, c6, c7, c8, rfl⟩
theorem list6 {α : Type} {l : List α} (h : l.length = 6) : ∃ c0 c1 c2 c3 c4 c5, l = [c0, c1, c2, c3, c4, c5] := by
  match l, h with
  | [c0, c1, c2, c3, c4, c5], _ => exact ⟨c0, c1, c2, c3, c4, c5, rfl⟩
theorem list4 {α : Type} {l : List α} (h : l.length = 4) : ∃ c0 c1 c2 c3, l = [c0, c1, c2, c3] := by
  match l, h with
  | [c0, c1, c2, c3], _ => exact ⟨c0, c1, c2, c3, rfl⟩
theorem cellsI : Try.prog.cellsOf 2 = 1 := by kernel_rfl
theorem cellsT : Try.prog.cellsOf 9 = 1 := by kernel_rfl
theorem cellsR : Try.prog.cellsOf 25 = 1 := by kernel_rfl
theorem cellsSt : Try.prog.cellsOf 41 = 4 := by kernel_rfl
theorem cellsSy : Try.prog.cellsOf 43 = 9 := by kernel_rfl
theorem open_say {H : Type} {enc : TypeId × Value → H} {W : World} {base b0 : Nat} {held : Bool} {r : Reach} {v : Value} {d : DataW H} {pl : List MemPlace}
    (hv : Value.okWide Try.prog W r b0 43 v) (h : DataW.Trod enc Try.prog W base (fun _ => true) held 43 v d pl) :
    ∃ (y : Sy) (p : Option Addr) (c : Nat), v = .agg #[.int .i64 y.k, .int .i64 y.f, .int .i64 y.t, .int .i64 y.s.g, .int .i64 y.s.o, .int .i64 y.s.b, .int .i64 y.s.h, .slice p y.ws.length c, .string y.b] ∧ (InI W p y.ws ∧ y.b.size ≤ maxLen) := by
  obtain ⟨cs, rfl, hsz⟩ := okWide_struct Try.underlying43 hv
  obtain ⟨c0, c1, c2, c3, c4, c5, c6, c7, c8, rfl⟩ := array9 (hsz.trans cellsSy)
  obtain ⟨fuel, hf⟩ := h
  obtain ⟨xs, n, _, _, hl, hlen, hfl⟩ := DataW.trod_struct Try.underlying43 hf
  obtain ⟨y0, y1, y2, y3, y4, y5, rfl⟩ := list6 hlen
  have h0 : DataW.trod enc Try.prog W base (fun _ => true) held n 2 [c0] = some y0 := by have := hfl 0 _ rfl; simpa [Value.cells, cellsI] using this
  have h1 : DataW.trod enc Try.prog W base (fun _ => true) held n 2 [c1] = some y1 := by have := hfl 1 _ rfl; simpa [Value.cells, cellsI] using this
  have h2 : DataW.trod enc Try.prog W base (fun _ => true) held n 2 [c2] = some y2 := by have := hfl 2 _ rfl; simpa [Value.cells, cellsI] using this
  have h3 : DataW.trod enc Try.prog W base (fun _ => true) held n 41 [c3, c4, c5, c6] = some y3 := by have := hfl 3 _ rfl; simpa [Value.cells, cellsSt] using this
  have h4 : DataW.trod enc Try.prog W base (fun _ => true) held n 25 [c7] = some y4 := by have := hfl 4 _ rfl; simpa [Value.cells, cellsR] using this
  have h5 : DataW.trod enc Try.prog W base (fun _ => true) held n 9 [c8] = some y5 := by have := hfl 5 _ rfl; simpa [Value.cells, cellsT] using this
  obtain ⟨k, q0, _, _⟩ := DataW.trod_int Try.underlying2 h0
  obtain ⟨f, q1, _, _⟩ := DataW.trod_int Try.underlying2 h1
  obtain ⟨t, q2, _, _⟩ := DataW.trod_int Try.underlying2 h2
  obtain ⟨b, q5, _, wb⟩ := DataW.trod_string Try.underlying9 h5
  obtain ⟨zs, m, _, _, _, hlen3, hfl3⟩ := DataW.trod_struct Try.underlying41 h3
  obtain ⟨u0, u1, u2, u3, rfl⟩ := list4 hlen3
  have g0 : DataW.trod enc Try.prog W base (fun _ => true) held m 2 [c3] = some u0 := by have := hfl3 0 _ rfl; simpa [Value.cells, cellsI] using this
  have g1 : DataW.trod enc Try.prog W base (fun _ => true) held m 2 [c4] = some u1 := by have := hfl3 1 _ rfl; simpa [Value.cells, cellsI] using this
  have g2 : DataW.trod enc Try.prog W base (fun _ => true) held m 2 [c5] = some u2 := by have := hfl3 2 _ rfl; simpa [Value.cells, cellsI] using this
  have g3 : DataW.trod enc Try.prog W base (fun _ => true) held m 2 [c6] = some u3 := by have := hfl3 3 _ rfl; simpa [Value.cells, cellsI] using this
  obtain ⟨sg, r0, _, _⟩ := DataW.trod_int Try.underlying2 g0
  obtain ⟨so, r1, _, _⟩ := DataW.trod_int Try.underlying2 g1
  obtain ⟨sb, r2, _, _⟩ := DataW.trod_int Try.underlying2 g2
  obtain ⟨sh, r3, _, _⟩ := DataW.trod_int Try.underlying2 g3
  cases q0; cases q1; cases q2; cases q5; cases r0; cases r1; cases r2; cases r3
  obtain ⟨a, len, cap, ys, e7, hrow⟩ : ∃ a len cap zs, c7 = .slice a len cap ∧ IsRowN .i64 W a len cap zs := by
    rcases open_ints Try.underlying25 Try.underlying2 cellsI h4 with ⟨hcs, _⟩ | ⟨x, l, c, zs, hcs, _, hl, hm, hz, _, hcell, hwz⟩
    · simp at hcs
      exact ⟨none, 0, 0, [], hcs, .inl ⟨rfl, rfl, rfl, rfl⟩⟩
    · simp at hcs
      exact ⟨some x, l, c, zs, hcs, .inr ⟨_, rfl, hl, hm, by simpa using hz, hcell, hwz⟩⟩
  subst e7
  obtain ⟨ws, rfl, hini, _⟩ := hrow.ini
  exact ⟨⟨k, f, t, ⟨sg, so, sb, sh⟩, ws, b⟩, a, cap, rfl, hini, wb⟩
end Go.Proofs.Ythmbfkppjijelaa
