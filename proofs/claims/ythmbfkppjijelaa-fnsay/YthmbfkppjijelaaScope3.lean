/- A LAW of jumps: a scope with three labels, of which one (the loop's) may be jumped back to, one lies behind it and one is the end for what is wrong. -/
import Derived.WalkKit
import Derived.ScopeJumps
import Derived.WalkMore
namespace Go.Proofs.Ythmbfkppjijelaa
open Go

/-- As Q; by a goto to l: J l; -/
def jumps (J : Nat → Act → World → Prop) (Q : Exit → Act → World → Prop) : Exit → Act → World → Prop
  | .goto l, a, w => J l a w
  | e, a, w => Q e a w
theorem jumps_ret (J : Nat → Act → World → Prop) (Q : Exit → Act → World → Prop) (a : Act) (w : World) : jumps J Q .ret a w = Q .ret a w := rfl
theorem jumps_goto (J : Nat → Act → World → Prop) (Q : Exit → Act → World → Prop) (l : Nat) (a : Act) (w : World) : jumps J Q (.goto l) a w = J l a w := rfl

theorem wp_scope_labels {P : Program} {a : Act} {w : World} {Q : Exit → Act → World → Prop} {c : Code} (J : Nat → Act → World → Prop) (μ : Nat → Act → World → Nat)
    (first : c.wp P (jumps J Q) a w)
    (pass : ∀ l a w, J l a w → ∃ rest, findLabel c l = some rest ∧ rest.wp P (jumps (fun l' a' w' => J l' a' w' ∧ μ l' a' w' < μ l a w) Q) a w) : (Code.scope c).wp P Q a w := by
  intro b k cs
  have key : ∀ n l a w, μ l a w = n → J l a w → ∃ rest, findLabel c l = some rest ∧ ∃ e a' w', Q e a' w' ∧ Arrives P (lone (b.at a (.code rest :: .inScope c :: k)) cs w) b k cs e a' w' := by
    intro n
    induction n using Nat.strongRecOn with
    | _ n ih =>
      intro l a w hn hJ
      obtain ⟨rest, hf, hp⟩ := pass l a w hJ
      refine ⟨rest, hf, ?_⟩
      obtain ⟨e, a₁, w₁, hq, harr⟩ := hp b (.inScope c :: k) cs
      cases e with
      | normal => exact ⟨.normal, a₁, w₁, hq, Steps.trans harr (.one step_inScope)⟩
      | exit id => exact ⟨.exit id, a₁, w₁, hq, fun k' hk => harr k' (by simp [exitTo, hk])⟩
      | goto l' =>
        obtain ⟨hJ', hlt⟩ := hq
        obtain ⟨rest', hf', e₂, a₂, w₂, hq₂, harr₂⟩ := ih _ (by omega) l' a₁ w₁ rfl hJ'
        have hg : gotoIn l' (.inScope c :: k) = some (.code rest' :: .inScope c :: k) := by simp [gotoIn, hf']
        exact ⟨e₂, a₂, w₂, hq₂, .of_steps (harr _ hg) harr₂⟩
      | ret => exact ⟨_, a₁, w₁, hq, harr⟩
      | panic ch => exact ⟨_, a₁, w₁, hq, harr⟩
      | outgrown => exact ⟨_, a₁, w₁, hq, harr⟩
  obtain ⟨e, a₁, w₁, hq, harr⟩ := first b (.inScope c :: k) cs
  cases e with
  | normal => exact ⟨.normal, a₁, w₁, hq, .head step_scope (Steps.trans harr (.one step_inScope))⟩
  | exit id => exact ⟨.exit id, a₁, w₁, hq, fun k' hk => .head step_scope (harr k' (by simp [exitTo, hk]))⟩
  | goto l' =>
    obtain ⟨rest', hf', e₂, a₂, w₂, hq₂, harr₂⟩ := key _ l' a₁ w₁ rfl hq
    have hg : gotoIn l' (.inScope c :: k) = some (.code rest' :: .inScope c :: k) := by simp [gotoIn, hf']
    exact ⟨e₂, a₂, w₂, hq₂, .of_steps (.head step_scope (harr _ hg)) harr₂⟩
  | ret => exact ⟨_, a₁, w₁, hq, .of_steps (.one step_scope) harr⟩
  | panic ch => exact ⟨_, a₁, w₁, hq, .of_steps (.one step_scope) harr⟩
  | outgrown => exact ⟨_, a₁, w₁, hq, .of_steps (.one step_scope) harr⟩

/-- three labels: 'more' (jumped back to), 'last' behind it, 'wrong' -/
def J3 (wrong more last : Nat) (Jw Jm Jl : Act → World → Prop) : Nat → Act → World → Prop := fun l a w => (l = wrong ∧ Jw a w) ∨ (l = more ∧ Jm a w) ∨ (l = last ∧ Jl a w)
theorem wp_scope_3 {P : Program} {a : Act} {w : World} {Q : Exit → Act → World → Prop} {c rw rm rl : Code} (wrong more last : Nat) (Jw Jm Jl : Act → World → Prop) (μ : Act → World → Nat)
    (hml : more ≠ last) (hmw : more ≠ wrong) (hlw : last ≠ wrong)
    (fw : findLabel c wrong = some rw) (fm : findLabel c more = some rm) (fl : findLabel c last = some rl)
    (first : c.wp P (jumps (J3 wrong more last Jw Jm Jl) Q) a w)
    (atWrong : ∀ a w, Jw a w → rw.wp P (jumps (fun _ _ _ => False) Q) a w)
    (atLast : ∀ a w, Jl a w → rl.wp P (jumps (fun l a w => l = wrong ∧ Jw a w) Q) a w)
    (atMore : ∀ a w, Jm a w → rm.wp P (jumps (J3 wrong more last Jw (fun a' w' => Jm a' w' ∧ μ a' w' < μ a w) Jl) Q) a w) : (Code.scope c).wp P Q a w := by
  refine wp_scope_labels (J3 wrong more last Jw Jm Jl) (fun l a w => if l = more then μ a w + 2 else if l = last then 1 else 0) first ?_
  rintro l a w (⟨rfl, h⟩ | ⟨rfl, h⟩ | ⟨rfl, h⟩)
  · refine ⟨rw, fw, Code.wp_mono ?_ (atWrong a w h)⟩
    intro e a w h
    cases e <;> first | exact h | exact h.elim
  · refine ⟨rm, fm, Code.wp_mono ?_ (atMore a w h)⟩
    intro e a' w' h
    cases e with
    | goto l' =>
      rcases h with ⟨rfl, h⟩ | ⟨rfl, h⟩ | ⟨rfl, h⟩
      · exact ⟨.inl ⟨rfl, h⟩, by simp [hmw.symm, hlw.symm]⟩
      · exact ⟨.inr (.inl ⟨rfl, h.1⟩), by simp [h.2]⟩
      · exact ⟨.inr (.inr ⟨rfl, h⟩), by simp [hml.symm]⟩
    | _ => exact h
  · refine ⟨rl, fl, Code.wp_mono ?_ (atLast a w h)⟩
    intro e a' w' h
    cases e with
    | goto l' =>
      obtain ⟨rfl, h⟩ := h
      exact ⟨.inl ⟨rfl, h⟩, by simp [hmw.symm, hlw.symm, hml.symm]⟩
    | _ => exact h
end Go.Proofs.Ythmbfkppjijelaa
