/- ROWS PUT BEHIND ONE ANOTHER: numbers and bytes, and copies of what lies anywhere in a row. Written by mkpag.py. -/
import Derived.Test.YtineecongiplgaaQpPathP
import Derived.Test.YtineecongiplgaaQpOwnU
namespace Go.Proofs.Ytineecongiplgaa
open Go.RowKit
set_option linter.unusedVariables false
set_option linter.unusedSimpArgs false

/-- numbers to be read, wherever in a row they begin -/
def SrcI (w : World) (v : Value) (zs : List Int) : Prop :=
  ∃ (p : Option Addr) (c : Nat), v = .slice p zs.length c ∧ ∀ k (h : k < zs.length), ∃ g o, p = some ⟨g, o, none⟩ ∧ g < w.heap.size ∧ w.cell? ⟨g, o + k, none⟩ = some (.int .i64 zs[k])
theorem SrcI.below {w w' : World} {v : Value} {zs : List Int} (h : SrcI w v zs) (hb : Below w.heap.size w w') : SrcI w' v zs := by
  obtain ⟨p, c, e, h⟩ := h
  refine ⟨p, c, e, fun k hk => ?_⟩
  obtain ⟨g, o, e1, h1, h2⟩ := h k hk
  exact ⟨g, o, e1, Nat.lt_of_lt_of_le h1 hb.size, (hb.cell (p := ⟨g, o + k, none⟩) h1).trans h2⟩
/-- numbers put behind an own row -/
theorem app_srcI (w : World) (ty : TypeId) (base : Nat) (v u : Value) (xs zs : List Int) (hown : OwnI w base v xs) (hs : SrcI w u zs) (hl : xs.length ≤ 3000000) (hz : zs.length ≤ 3000000) (hb : base ≤ w.heap.size) :
    ∃ v' w', (Builtin.append_ #[23, 23] ty #[v, u]).run Try.prog w = .ok v' w' ∧ OwnI w' base v' (xs ++ zs) ∧ w.grownBy w' v.ownBlock := by
  obtain ⟨i0, hi, hz0, hz1, hz2⟩ := info_parts info64
  obtain ⟨p, c, rfl, hc⟩ := hs
  cases p with
  | none =>
    obtain rfl : zs = [] := by
      cases zs with
      | nil => rfl
      | cons z zs => obtain ⟨g, o, e, _⟩ := hc 0 (by simp); cases e
    refine ⟨v, w, run_append_owned_none w base 23 ty 2 i0 1 Try.underlying23 hi v xs.length _ hown, by rw [List.append_nil]; exact hown, grown_reflI _ _⟩
  | some p =>
    have hnews : ∀ j u, (zs.map (Value.int .i64))[j]? = some u → w.cell? (p.add j) = some u := by
      intro j u hj
      rw [List.getElem?_map] at hj
      cases hz : zs[j]? with
      | none => rw [hz] at hj; cases hj
      | some z =>
        rw [hz] at hj
        cases hj
        obtain ⟨hlt, hzj⟩ := List.getElem?_eq_some_iff.1 hz
        obtain ⟨g, o, e, _, hq⟩ := hc j hlt
        cases e
        rw [hzj] at hq
        rw [show (⟨g, o, none⟩ : Addr).add j = ⟨g, o + j, none⟩ by unfold Addr.add; split <;> simp_all]
        exact hq
    obtain ⟨v', w', hrun, r1, r2, _⟩ := run_append_own (P := Try.prog) w base 23 ty 2 i0 (.int .i64 0) 1 8 Try.underlying23 hi hz0 hz1 hz2 rfl (by decide) v xs.length (xs.map (Value.int .i64)) hown p zs.length c (zs.map (Value.int .i64)) (by simp) hnews
      (by intro u hu; rw [List.mem_map] at hu; obtain ⟨n, _, rfl⟩ := hu; rfl) (by unfold maxLen; omega) (by omega) hb
    refine ⟨v', w', hrun, ?_, r2⟩
    unfold OwnI
    rw [List.length_append, List.map_append]
    exact r1
/-- a list of two lists, one behind the other -/
def togI (a b : List Int) (k : Nat) : List Int := if k = 0 then [] else if k = 1 then a else a ++ b
set_option maxRecDepth 100000 in
set_option maxHeartbeats 1600000 in
theorem together_I (g : Nat) (fz : Nat × Nat) (u1 u2 : Value) (a b : List Int) (w : World) (hg : w.heap[g]? = some (.cells #[u1, u2] 23 fz)) (h1 : SrcI w u1 a) (h2 : SrcI w u2 b) (hl1 : a.length ≤ 1500000) (hl2 : b.length ≤ 1500000) :
    Calls Try.prog 52 #[.slice (some ⟨g, 0, none⟩) 2 2] w fun e w' => ∃ v, e = .returned v ∧ OwnI w' w.heap.size v (a ++ b) ∧ Below w.heap.size w w' := by
  have hgl : g < w.heap.size := (Array.getElem?_eq_some_iff.1 hg).1
  have q1 : w.cell? ⟨g, 0, none⟩ = some u1 := by simp [World.cell?, hg]
  have q2 : w.cell? ⟨g, 1, none⟩ = some u2 := by simp [World.cell?, hg]
  have HA1 : Hid (∀ (W : World) (v : Value), Below w.heap.size w W → OwnI W w.heap.size v [] → ∃ v' w', (Builtin.append_ #[23, 23] 23 #[v, u1]).run Try.prog W = .ok v' w' ∧ OwnI w' w.heap.size v' a ∧ W.grownBy w' v.ownBlock) := fun W v hW ho => app_srcI W _ _ v u1 [] a ho (h1.below hW) (by simp) (by omega) hW.size
  have HA2 : Hid (∀ (W : World) (v : Value), Below w.heap.size w W → OwnI W w.heap.size v a → ∃ v' w', (Builtin.append_ #[23, 23] 23 #[v, u2]).run Try.prog W = .ok v' w' ∧ OwnI w' w.heap.size v' (a ++ b) ∧ W.grownBy w' v.ownBlock) := fun W v hW ho => app_srcI W _ _ v u2 a b ho (h2.below hW) (by omega) (by omega) hW.size
  have Q1 : Hid (∀ W, Below w.heap.size w W → W.cell? ⟨g, 0, none⟩ = some u1) := fun W hW => (hW.cell (p := ⟨g, 0, none⟩) hgl).trans q1
  have Q2 : Hid (∀ W, Below w.heap.size w W → W.cell? ⟨g, 1, none⟩ = some u2) := fun W hW => (hW.cell (p := ⟨g, 1, none⟩) hgl).trans q2
  have HN : Hid (OwnI w w.heap.size (.slice none 0 0) []) := ⟨by simp, .inl ⟨rfl, rfl⟩⟩
  obtain ⟨p1, c1, rfl, _⟩ := h1
  obtain ⟨p2, c2, rfl, _⟩ := h2
  clear hg q1 q2
  go_enter Try.func52, Try.ntmps52
  go_wp2
  go_loopw [3, 8] (fun all i wr => ∃ (k : Nat) (p : Option Addr) (n c : Nat), k ≤ 2 ∧ i = .int .i64 k ∧ all = .slice p n c ∧ Hid (OwnI wr w.heap.size (.slice p n c) (togI a b k)) ∧ Hid (Below w.heap.size w wr)) (fun _ i _ => 2 - (intOf i).toNat)
  case atStart => exact ⟨0, none, 0, 0, by omega, rfl, rfl, HN.out, Below.refl _ _⟩
  case round =>
    obtain ⟨k, p, n, c, hk, rfl, rfl, HO, HB⟩ := hrel
    have hk3 : k = 0 ∨ k = 1 ∨ k = 2 := by omega
    rcases hk3 with rfl | rfl | rfl
    · have y := Q1.out wr HB.out
      obtain ⟨v', w', hrun, hO, hG⟩ := HA1.out wr _ HB.out HO.out
      have hO' : Hid (OwnI w' w.heap.size v' (togI a b 1)) := hO
      have hB' : Hid (Below w.heap.size w w') := below_grown HB.out hG (fun k hk => (World.ownsRow.lt HO.out k hk).1)
      obtain ⟨p', n', c', rfl⟩ : ∃ p n c, v' = .slice p n c := by rcases hO.2 with ⟨rfl, _⟩ | ⟨_, _, _, rfl, _⟩ <;> exact ⟨_, _, _, rfl⟩
      clear hO hG
      go_wp2_with (at_builtin; refine wpList_plain rfl fun K hK => ?_; unfold Oper.wp; simp [execOp, resolve, invoke, builtin, Act.eval, hrun, Result.andThen]; refine hK _ _ ?_)
      go_roundw
      case rel => exact ⟨1, p', n', c', by omega, by go_num, rfl, hO'.out, hB'.out⟩
      case measure => simp [intOf] <;> omega
    · have y := Q2.out wr HB.out
      obtain ⟨v', w', hrun, hO, hG⟩ := HA2.out wr _ HB.out HO.out
      have hO' : Hid (OwnI w' w.heap.size v' (togI a b 2)) := hO
      have hB' : Hid (Below w.heap.size w w') := below_grown HB.out hG (fun k hk => (World.ownsRow.lt HO.out k hk).1)
      obtain ⟨p', n', c', rfl⟩ : ∃ p n c, v' = .slice p n c := by rcases hO.2 with ⟨rfl, _⟩ | ⟨_, _, _, rfl, _⟩ <;> exact ⟨_, _, _, rfl⟩
      clear hO hG
      go_wp2_with (at_builtin; refine wpList_plain rfl fun K hK => ?_; unfold Oper.wp; simp [execOp, resolve, invoke, builtin, Act.eval, hrun, Result.andThen]; refine hK _ _ ?_)
      go_roundw
      case rel => exact ⟨2, p', n', c', by omega, by go_num, rfl, hO'.out, hB'.out⟩
      case measure => simp [intOf] <;> omega
    · go_wp2
      go_ret
      exact ⟨_, rfl, HO.out, HB.out⟩

theorem RowI.src {w : World} {v : Value} {zs : List Int} (h : RowI w v zs) : SrcI w v zs := by
  obtain ⟨p, c, e, h⟩ := h
  refine ⟨p, c, e, fun k hk => ?_⟩
  obtain ⟨g, e1, h1, h2⟩ := h k hk
  exact ⟨g, 0, e1, h1, by rw [Nat.zero_add]; exact h2⟩
set_option maxRecDepth 100000 in
theorem copyNums_src (v : Value) (zs : List Int) (w : World) (hl : zs.length ≤ 100000) (hs : SrcI w v zs) :
    Calls Try.prog 42 #[v] w fun e w' => ∃ v', e = .returned v' ∧ OwnI w' w.heap.size v' zs ∧ Below w.heap.size w w' := by
  have H : Hid (∀ ty, ∃ v' w', (Builtin.append_ #[23, 23] ty #[.slice none 0 0, v]).run Try.prog w = .ok v' w' ∧ OwnI w' w.heap.size v' zs ∧ w.grownBy w' (Value.slice none 0 0).ownBlock) := fun ty => app_srcI w ty w.heap.size _ v [] zs (OwnI.nil _ _) hs (by simp) (by omega) (Nat.le_refl _)
  obtain ⟨p, c, rfl, _⟩ := hs
  obtain ⟨v', w', hrun, hO, hG⟩ := H.out 23
  have hO' : Hid (OwnI _ _ _ _) := hO
  have hB' : Hid (Below w.heap.size w w') := below_grown (Below.refl _ _) hG (fun k hk => by cases hk)
  obtain ⟨p', c', rfl⟩ := hO.shape
  clear hO H hG
  go_enter Try.func42, Try.ntmps42
  go_wp2_with (at_builtin; refine wpList_plain rfl fun K hK => ?_; unfold Oper.wp; simp [execOp, resolve, invoke, builtin, Act.eval, hrun, Result.andThen]; refine hK _ _ ?_)
  go_ret
  exact ⟨_, rfl, hO'.out, hB'.out⟩

/-- bytes to be read, wherever in a row they begin -/
def SrcU (w : World) (v : Value) (zs : List Int) : Prop :=
  ∃ (p : Option Addr) (c : Nat), v = .slice p zs.length c ∧ ∀ k (h : k < zs.length), ∃ g o, p = some ⟨g, o, none⟩ ∧ g < w.heap.size ∧ w.cell? ⟨g, o + k, none⟩ = some (.int .u8 zs[k])
theorem SrcU.below {w w' : World} {v : Value} {zs : List Int} (h : SrcU w v zs) (hb : Below w.heap.size w w') : SrcU w' v zs := by
  obtain ⟨p, c, e, h⟩ := h
  refine ⟨p, c, e, fun k hk => ?_⟩
  obtain ⟨g, o, e1, h1, h2⟩ := h k hk
  exact ⟨g, o, e1, Nat.lt_of_lt_of_le h1 hb.size, (hb.cell (p := ⟨g, o + k, none⟩) h1).trans h2⟩
/-- bytes put behind an own row -/
theorem app_srcU (w : World) (ty : TypeId) (base : Nat) (v u : Value) (xs zs : List Int) (hown : OwnU w base v xs) (hs : SrcU w u zs) (hl : xs.length ≤ 3000000) (hz : zs.length ≤ 3000000) (hb : base ≤ w.heap.size) :
    ∃ v' w', (Builtin.append_ #[22, 22] ty #[v, u]).run Try.prog w = .ok v' w' ∧ OwnU w' base v' (xs ++ zs) ∧ w.grownBy w' v.ownBlock := by
  obtain ⟨i0, hi, hz0, hz1, hz2⟩ := info_parts info8
  obtain ⟨p, c, rfl, hc⟩ := hs
  cases p with
  | none =>
    obtain rfl : zs = [] := by
      cases zs with
      | nil => rfl
      | cons z zs => obtain ⟨g, o, e, _⟩ := hc 0 (by simp); cases e
    refine ⟨v, w, run_append_owned_none w base 22 ty 5 i0 1 Try.underlying22 hi v xs.length _ hown, by rw [List.append_nil]; exact hown, grown_reflI _ _⟩
  | some p =>
    have hnews : ∀ j u, (zs.map (Value.int .u8))[j]? = some u → w.cell? (p.add j) = some u := by
      intro j u hj
      rw [List.getElem?_map] at hj
      cases hz : zs[j]? with
      | none => rw [hz] at hj; cases hj
      | some z =>
        rw [hz] at hj
        cases hj
        obtain ⟨hlt, hzj⟩ := List.getElem?_eq_some_iff.1 hz
        obtain ⟨g, o, e, _, hq⟩ := hc j hlt
        cases e
        rw [hzj] at hq
        rw [show (⟨g, o, none⟩ : Addr).add j = ⟨g, o + j, none⟩ by unfold Addr.add; split <;> simp_all]
        exact hq
    obtain ⟨v', w', hrun, r1, r2, _⟩ := run_append_own (P := Try.prog) w base 22 ty 5 i0 (.int .u8 0) 1 1 Try.underlying22 hi hz0 hz1 hz2 rfl (by decide) v xs.length (xs.map (Value.int .u8)) hown p zs.length c (zs.map (Value.int .u8)) (by simp) hnews
      (by intro u hu; rw [List.mem_map] at hu; obtain ⟨n, _, rfl⟩ := hu; rfl) (by unfold maxLen; omega) (by omega) hb
    refine ⟨v', w', hrun, ?_, r2⟩
    unfold OwnU
    rw [List.length_append, List.map_append]
    exact r1
/-- a list of two lists, one behind the other -/
def togU (a b : List Int) (k : Nat) : List Int := if k = 0 then [] else if k = 1 then a else a ++ b
set_option maxRecDepth 100000 in
set_option maxHeartbeats 1600000 in
theorem together_U (g : Nat) (fz : Nat × Nat) (u1 u2 : Value) (a b : List Int) (w : World) (hg : w.heap[g]? = some (.cells #[u1, u2] 22 fz)) (h1 : SrcU w u1 a) (h2 : SrcU w u2 b) (hl1 : a.length ≤ 1500000) (hl2 : b.length ≤ 1500000) :
    Calls Try.prog 46 #[.slice (some ⟨g, 0, none⟩) 2 2] w fun e w' => ∃ v, e = .returned v ∧ OwnU w' w.heap.size v (a ++ b) ∧ Below w.heap.size w w' := by
  have hgl : g < w.heap.size := (Array.getElem?_eq_some_iff.1 hg).1
  have q1 : w.cell? ⟨g, 0, none⟩ = some u1 := by simp [World.cell?, hg]
  have q2 : w.cell? ⟨g, 1, none⟩ = some u2 := by simp [World.cell?, hg]
  have HA1 : Hid (∀ (W : World) (v : Value), Below w.heap.size w W → OwnU W w.heap.size v [] → ∃ v' w', (Builtin.append_ #[22, 22] 22 #[v, u1]).run Try.prog W = .ok v' w' ∧ OwnU w' w.heap.size v' a ∧ W.grownBy w' v.ownBlock) := fun W v hW ho => app_srcU W _ _ v u1 [] a ho (h1.below hW) (by simp) (by omega) hW.size
  have HA2 : Hid (∀ (W : World) (v : Value), Below w.heap.size w W → OwnU W w.heap.size v a → ∃ v' w', (Builtin.append_ #[22, 22] 22 #[v, u2]).run Try.prog W = .ok v' w' ∧ OwnU w' w.heap.size v' (a ++ b) ∧ W.grownBy w' v.ownBlock) := fun W v hW ho => app_srcU W _ _ v u2 a b ho (h2.below hW) (by omega) (by omega) hW.size
  have Q1 : Hid (∀ W, Below w.heap.size w W → W.cell? ⟨g, 0, none⟩ = some u1) := fun W hW => (hW.cell (p := ⟨g, 0, none⟩) hgl).trans q1
  have Q2 : Hid (∀ W, Below w.heap.size w W → W.cell? ⟨g, 1, none⟩ = some u2) := fun W hW => (hW.cell (p := ⟨g, 1, none⟩) hgl).trans q2
  have HN : Hid (OwnU w w.heap.size (.slice none 0 0) []) := ⟨by simp, .inl ⟨rfl, rfl⟩⟩
  obtain ⟨p1, c1, rfl, _⟩ := h1
  obtain ⟨p2, c2, rfl, _⟩ := h2
  clear hg q1 q2
  go_enter Try.func46, Try.ntmps46
  go_wp2
  go_loopw [3, 8] (fun all i wr => ∃ (k : Nat) (p : Option Addr) (n c : Nat), k ≤ 2 ∧ i = .int .i64 k ∧ all = .slice p n c ∧ Hid (OwnU wr w.heap.size (.slice p n c) (togU a b k)) ∧ Hid (Below w.heap.size w wr)) (fun _ i _ => 2 - (intOf i).toNat)
  case atStart => exact ⟨0, none, 0, 0, by omega, rfl, rfl, HN.out, Below.refl _ _⟩
  case round =>
    obtain ⟨k, p, n, c, hk, rfl, rfl, HO, HB⟩ := hrel
    have hk3 : k = 0 ∨ k = 1 ∨ k = 2 := by omega
    rcases hk3 with rfl | rfl | rfl
    · have y := Q1.out wr HB.out
      obtain ⟨v', w', hrun, hO, hG⟩ := HA1.out wr _ HB.out HO.out
      have hO' : Hid (OwnU w' w.heap.size v' (togU a b 1)) := hO
      have hB' : Hid (Below w.heap.size w w') := below_grown HB.out hG (fun k hk => (World.ownsRow.lt HO.out k hk).1)
      obtain ⟨p', n', c', rfl⟩ : ∃ p n c, v' = .slice p n c := by rcases hO.2 with ⟨rfl, _⟩ | ⟨_, _, _, rfl, _⟩ <;> exact ⟨_, _, _, rfl⟩
      clear hO hG
      go_wp2_with (at_builtin; refine wpList_plain rfl fun K hK => ?_; unfold Oper.wp; simp [execOp, resolve, invoke, builtin, Act.eval, hrun, Result.andThen]; refine hK _ _ ?_)
      go_roundw
      case rel => exact ⟨1, p', n', c', by omega, by go_num, rfl, hO'.out, hB'.out⟩
      case measure => simp [intOf] <;> omega
    · have y := Q2.out wr HB.out
      obtain ⟨v', w', hrun, hO, hG⟩ := HA2.out wr _ HB.out HO.out
      have hO' : Hid (OwnU w' w.heap.size v' (togU a b 2)) := hO
      have hB' : Hid (Below w.heap.size w w') := below_grown HB.out hG (fun k hk => (World.ownsRow.lt HO.out k hk).1)
      obtain ⟨p', n', c', rfl⟩ : ∃ p n c, v' = .slice p n c := by rcases hO.2 with ⟨rfl, _⟩ | ⟨_, _, _, rfl, _⟩ <;> exact ⟨_, _, _, rfl⟩
      clear hO hG
      go_wp2_with (at_builtin; refine wpList_plain rfl fun K hK => ?_; unfold Oper.wp; simp [execOp, resolve, invoke, builtin, Act.eval, hrun, Result.andThen]; refine hK _ _ ?_)
      go_roundw
      case rel => exact ⟨2, p', n', c', by omega, by go_num, rfl, hO'.out, hB'.out⟩
      case measure => simp [intOf] <;> omega
    · go_wp2
      go_ret
      exact ⟨_, rfl, HO.out, HB.out⟩
end Go.Proofs.Ytineecongiplgaa
