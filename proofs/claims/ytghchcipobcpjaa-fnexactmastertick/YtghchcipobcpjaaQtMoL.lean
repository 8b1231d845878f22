/- WHAT A MASTER ANSWERS: marked, still marked, held against another by the law itself. -/
import Derived.Test.YtghchcipobcpjaaQtRecN
import Derived.Test.YtghchcipobcpjaaQtRecS
import Derived.Test.YtghchcipobcpjaaQtMstL
namespace Go.Proofs.Ytghchcipobcpjaa
open Go.RowKit
set_option linter.unusedVariables false
set_option linter.unusedSimpArgs false

/-- nothing has turned but what a word tells -/
structure TouchR (w w' : World) (P : Nat → Prop) : Prop where
  os : w'.os = w.os
  tape : w'.tape = w.tape
  output : w'.output = w.output
  size : w.heap.size ≤ w'.heap.size
  block : ∀ k, k < w.heap.size → ¬ P k → w'.heap[k]? = w.heap[k]?
theorem OnlyR.touch {w w' : World} {lo hi : Nat} (h : OnlyR w w' lo hi) : TouchR w w' (fun k => lo ≤ k ∧ k < hi) := ⟨h.os, h.tape, h.output, h.size, fun k hk hp => h.block k hk (by omega)⟩
theorem TouchR.only {w w' : World} {lo hi : Nat} {P : Nat → Prop} (h : TouchR w w' P) (hp : ∀ k, P k → lo ≤ k ∧ k < hi) : OnlyR w w' lo hi := ⟨h.os, h.tape, h.output, h.size, fun k hk ho => h.block k hk (fun hh => by have := hp k hh; omega)⟩
theorem TouchR.trans {w a b : World} {P Q : Nat → Prop} (h : TouchR w a P) (g : TouchR a b Q) : TouchR w b (fun k => P k ∨ Q k) :=
  ⟨g.os.trans h.os, g.tape.trans h.tape, g.output.trans h.output, Nat.le_trans h.size g.size, fun k hk hp => (g.block k (Nat.lt_of_lt_of_le hk h.size) (fun q => hp (.inr q))).trans (h.block k hk (fun q => hp (.inl q)))⟩
theorem TouchR.after {w a b : World} {Q : Nat → Prop} (h : Below w.heap.size w a) (g : TouchR a b Q) : TouchR w b Q :=
  ⟨g.os.trans h.os, g.tape.trans h.tape, g.output.trans h.output, Nat.le_trans h.size g.size, fun k hk hp => (g.block k (Nat.lt_of_lt_of_le hk h.size) hp).trans (h.block k hk)⟩
theorem TouchR.same {w a : World} {P : Nat → Prop} {l h : Nat} (o : TouchR w a P) (hs : h ≤ w.heap.size) (hd : ∀ k, l ≤ k → k < h → ¬ P k) : SameR w a l h := fun k h1 h2 => o.block k (by omega) (hd k h1 h2)
set_option maxRecDepth 100000 in
set_option maxHeartbeats 800000 in
theorem markMaster_at (s : Mst) (l1 h1 l2 h2 : Nat) (v1 v2 : Value) (w : World) (hn1 : s.op.length ≤ 1048576) (hn2 : s.dn.length ≤ 1048576) (hd : h1 ≤ l2 ∨ h2 ≤ l1) (o1 : OwnW w l1 h1 v1 s.op) (o2 : OwnD w l2 h2 v2 s.dn) :
    Calls Try.prog 11 #[.agg #[.int .i64 s.nx, v1, v2], .int .i64 1] w fun e w' => e = .returned (.int .i64 (1 + 4 * (s.op.length : Int) + 2 * (s.dn.length : Int))) ∧ OwnW w' l1 h1 v1 (marksC wtAt 4 1 s.op.length) ∧ OwnD w' l2 h2 v2 (marksC dnAt 2 (1 + 4 * (s.op.length : Int)) s.dn.length) ∧ TouchR w w' (fun k => (l1 ≤ k ∧ k < h1) ∨ (l2 ≤ k ∧ k < h2)) := by
  have H1 : Hid (∀ W, Below w.heap.size w W → Calls Try.prog 34 #[v1, .int .i64 1] W fun e w' => e = .returned (.int .i64 (1 + 4 * (s.op.length : Int))) ∧ OwnW w' l1 h1 v1 (marksC wtAt 4 1 s.op.length) ∧ OnlyR W w' l1 h1) := fun W hW => markWaitS_at 1 (by omega) l1 h1 v1 s.op W hn1 (OwnC.below o1 hW)
  have H2 : Hid (∀ W, OwnD W l2 h2 v2 s.dn → Calls Try.prog 35 #[v2, .int .i64 (1 + 4 * (s.op.length : Int))] W fun e w' => e = .returned (.int .i64 (1 + 4 * (s.op.length : Int) + 2 * (s.dn.length : Int))) ∧ OwnD w' l2 h2 v2 (marksC dnAt 2 (1 + 4 * (s.op.length : Int)) s.dn.length) ∧ OnlyR W w' l2 h2) := fun W hW => markDoneS_at (1 + 4 * (s.op.length : Int)) (by omega) l2 h2 v2 s.dn W hn2 hW
  have hh1 := o1.1
  have hh2 := o2.1
  have HO2 : Hid (OwnD w l2 h2 v2 s.dn) := o2
  obtain ⟨p1, c1, rfl⟩ := OwnC.shape o1
  obtain ⟨p2, c2, rfl⟩ := OwnC.shape o2
  clear o1 o2
  have hA0 : Hid (Below w.heap.size w _) := all_alloc w (.cells #[.int .i64 s.nx, .slice p1 s.op.length c1, .slice p2 s.dn.length c2] 30)
  have hX : Hid _ := heap_alloc_new w (.cells #[.int .i64 s.nx, .slice p1 s.op.length c1, .slice p2 s.dn.length c2] 30)
  obtain ⟨K1, hK1⟩ : ∃ K, Hid (1 + 4 * (s.op.length : Int) = K) := ⟨_, (show _ = _ from rfl)⟩
  rw [hK1.out] at H1 H2 ⊢
  obtain ⟨K2, hK2⟩ : ∃ K, Hid (K1 + 2 * (s.dn.length : Int) = K) := ⟨_, (show _ = _ from rfl)⟩
  rw [hK2.out] at H2 ⊢
  go_enter Try.func11, Try.ntmps11
  go_wp2_with (first
    | (go_at_call 34; refine (H1.out _ hA0.out).mono ?_; rintro e w1 ⟨rfl, m1, u1⟩; have hX1 : Hid _ := (u1.block w.heap.size (by simp) (.inr hh1)).trans hX.out; have x2 := cellW hX1.out 2 _ rfl w1 (Below.refl _ _))
    | (go_at_call 35; refine (H2.out _ (OwnC.same (OwnC.below HO2.out hA0.out) (u1.same (by omega) (by simp; omega)) u1.size)).mono ?_; rintro e w2 ⟨rfl, m2, u2⟩))
  go_ret
  have hz1 : w.heap.size + 1 ≤ w1.heap.size := by have := u1.size; simpa using this
  exact ⟨rfl, OwnC.same m1 (u2.same (by omega) (by omega)) u2.size, m2, TouchR.after hA0.out (u1.touch.trans u2.touch)⟩
set_option maxRecDepth 100000 in
set_option maxHeartbeats 800000 in
theorem heldMaster_at (nx : Int) (n1 n2 : Nat) (v1 v2 : Value) (w : World) (hn1 : n1 ≤ 1048576) (hn2 : n2 ≤ 1048576) (r1 : RowW w v1 (marksC wtAt 4 1 n1)) (r2 : RowD w v2 (marksC dnAt 2 (1 + 4 * (n1 : Int)) n2)) :
    Calls Try.prog 37 #[.agg #[.int .i64 nx, v1, v2], .int .i64 1] w fun e w' => e = .returned (.int .i64 (1 + 4 * (n1 : Int) + 2 * (n2 : Int))) ∧ Below w.heap.size w w' := by
  have H1 : Hid (∀ W, Below w.heap.size w W → Calls Try.prog 61 #[v1, .int .i64 1] W fun e w' => e = .returned (.int .i64 (1 + 4 * (n1 : Int))) ∧ Below W.heap.size W w') := fun W hW => heldWaitS_at 1 (by omega) v1 n1 W hn1 (RowC.below r1 hW)
  have H2 : Hid (∀ W, Below w.heap.size w W → Calls Try.prog 62 #[v2, .int .i64 (1 + 4 * (n1 : Int))] W fun e w' => e = .returned (.int .i64 (1 + 4 * (n1 : Int) + 2 * (n2 : Int))) ∧ Below W.heap.size W w') := fun W hW => heldDoneS_at (1 + 4 * (n1 : Int)) (by omega) v2 n2 W hn2 (RowC.below r2 hW)
  obtain ⟨p1, c1, rfl⟩ := RowC.shape r1
  obtain ⟨p2, c2, rfl⟩ := RowC.shape r2
  clear r1 r2
  generalize (marksC wtAt 4 1 n1).length = z1 at *
  generalize (marksC dnAt 2 (1 + 4 * (n1 : Int)) n2).length = z2 at *
  have hA0 : Hid (Below w.heap.size w _) := all_alloc w (.cells #[.int .i64 nx, .slice p1 z1 c1, .slice p2 z2 c2] 30)
  have hX : Hid _ := heap_alloc_new w (.cells #[.int .i64 nx, .slice p1 z1 c1, .slice p2 z2 c2] 30)
  have f1 : ¬ 1 + 4 * (n1 : Int) < 0 := by omega
  have f2 : ¬ 1 + 4 * (n1 : Int) + 2 * (n2 : Int) < 0 := by omega
  generalize 1 + 4 * (n1 : Int) = K1 at *
  generalize K1 + 2 * (n2 : Int) = K2 at *
  go_enter Try.func37, Try.ntmps37
  go_wp2_with (first
    | (go_at_call 61; refine (H1.out _ hA0.out).mono ?_; rintro e w1 ⟨rfl, hb1⟩; have x2 := cellW hX.out 2 _ rfl w1 hb1)
    | (go_at_call 62; refine (H2.out _ (keepB hA0.out (Nat.le_refl _) hb1)).mono ?_; rintro e w2 ⟨rfl, hb2⟩))
  go_ret
  exact ⟨rfl, keepB (keepB hA0.out (Nat.le_refl _) hb1) (Nat.le_refl _) hb2⟩
/-- what a master answers -/
structure Mo where
  m : Mst
  se : List ByteArray
  id : Int
  co : Int
def Mo.mark (o : Mo) : Mo := ⟨⟨o.m.nx, marksC wtAt 4 1 o.m.op.length, marksC dnAt 2 (1 + 4 * (o.m.op.length : Int)) o.m.dn.length⟩, rcMarks (1 + 4 * o.m.op.length + 2 * o.m.dn.length) o.se.length, o.id, o.co⟩
/-- an answer's own lists, each in its stretch -/
structure OwnMo (w : World) (base top : Nat) (v1 v2 v3 : Value) (o : Mo) : Prop where
  le : top ≤ w.heap.size
  all : ∃ l1 h1 l2 h2 l3 h3, (base ≤ l1 ∧ base ≤ l2 ∧ base ≤ l3) ∧ (h1 ≤ top ∧ h2 ≤ top ∧ h3 ≤ top) ∧ OwnW w l1 h1 v1 o.m.op ∧ OwnD w l2 h2 v2 o.m.dn ∧ OwnSB w l3 h3 v3 o.se ∧ (h1 ≤ l2 ∨ h2 ≤ l1) ∧ (h1 ≤ l3 ∨ h3 ≤ l1) ∧ (h2 ≤ l3 ∨ h3 ≤ l2)
theorem OwnMo.same {w w' : World} {base top : Nat} {v1 v2 v3 : Value} {o : Mo} (h : OwnMo w base top v1 v2 v3 o) (hs : SameR w w' base top) (hz : w.heap.size ≤ w'.heap.size) : OwnMo w' base top v1 v2 v3 o := by
  obtain ⟨l1, h1, l2, h2, l3, h3, hl, hh, o1, o2, o3, d⟩ := h.all
  have := h.le
  exact ⟨by omega, l1, h1, l2, h2, l3, h3, hl, hh, OwnC.same o1 (hs.mono hl.1 hh.1) hz, OwnC.same o2 (hs.mono hl.2.1 hh.2.1) hz, OwnSB.same o3 (hs.mono hl.2.2 hh.2.2), d⟩
theorem OwnMo.below {w w' : World} {base top : Nat} {v1 v2 v3 : Value} {o : Mo} (h : OwnMo w base top v1 v2 v3 o) (hb : Below w.heap.size w w') : OwnMo w' base top v1 v2 v3 o := h.same (SameR.below hb h.le) hb.size
/-- an answer in memory, to be read -/
structure RowMo (w : World) (v1 v2 v3 : Value) (o : Mo) : Prop where
  m : RowMst w v1 v2 o.m
  s : ∃ b, OwnSr w b v3 o.se
theorem RowMo.below {w w' : World} {v1 v2 v3 : Value} {o : Mo} (h : RowMo w v1 v2 v3 o) (hb : Below w.heap.size w w') : RowMo w' v1 v2 v3 o := ⟨h.m.below hb, h.s.imp fun b hs => OwnSr.below hs hb⟩
theorem OwnMo.row {w : World} {base top : Nat} {v1 v2 v3 : Value} {o : Mo} (h : OwnMo w base top v1 v2 v3 o) : RowMo w v1 v2 v3 o := by
  obtain ⟨l1, h1, l2, h2, l3, h3, hl, hh, o1, o2, o3, d⟩ := h.all
  exact ⟨⟨OwnC.row o1, OwnC.row o2⟩, l3, o3.1⟩
set_option maxRecDepth 100000 in
set_option maxHeartbeats 1600000 in
theorem markMasterOut_at (o : Mo) (base top : Nat) (v1 v2 v3 : Value) (w : World) (hn1 : o.m.op.length ≤ 1048576) (hn2 : o.m.dn.length ≤ 1048576) (hn3 : o.se.length ≤ 1048576) (h : OwnMo w base top v1 v2 v3 o) :
    Calls Try.prog 12 #[.agg #[.int .i64 o.m.nx, v1, v2, v3, .int .i64 o.id, .int .i64 o.co], .int .i64 1] w fun e w' => e = .returned (.int .i64 (1 + 4 * (o.m.op.length : Int) + 2 * (o.m.dn.length : Int) + (o.se.length : Int))) ∧ OwnMo w' base top v1 v2 v3 o.mark ∧ OnlyR w w' base top := by
  have htop := h.le
  obtain ⟨l1, h1, l2, h2, l3, h3, hl, hh, o1, o2, o3, d12, d13, d23⟩ := h.all
  have H1 : Hid (∀ W, Below w.heap.size w W → Calls Try.prog 11 #[.agg #[.int .i64 o.m.nx, v1, v2], .int .i64 1] W fun e w' => e = .returned (.int .i64 (1 + 4 * (o.m.op.length : Int) + 2 * (o.m.dn.length : Int))) ∧ OwnW w' l1 h1 v1 (marksC wtAt 4 1 o.m.op.length) ∧ OwnD w' l2 h2 v2 (marksC dnAt 2 (1 + 4 * (o.m.op.length : Int)) o.m.dn.length) ∧ TouchR W w' (fun k => (l1 ≤ k ∧ k < h1) ∨ (l2 ≤ k ∧ k < h2))) := fun W hW => markMaster_at o.m l1 h1 l2 h2 v1 v2 W hn1 hn2 d12 (OwnC.below o1 hW) (OwnC.below o2 hW)
  have H2 : Hid (∀ W, OwnSB W l3 h3 v3 o.se → Calls Try.prog 36 #[v3, .int .i64 (1 + 4 * (o.m.op.length : Int) + 2 * (o.m.dn.length : Int))] W fun e w' => e = .returned (.int .i64 (1 + 4 * (o.m.op.length : Int) + 2 * (o.m.dn.length : Int) + (o.se.length : Int))) ∧ OwnSB w' l3 h3 v3 (rcMarks (1 + 4 * o.m.op.length + 2 * o.m.dn.length) o.se.length) ∧ OnlyR W w' l3 h3) := fun W hW => by
    have := rcMarkStringS (1 + 4 * o.m.op.length + 2 * o.m.dn.length) (by omega) l3 h3 v3 o.se W hn3 hW
    have e : ((1 + 4 * o.m.op.length + 2 * o.m.dn.length : Nat) : Int) = 1 + 4 * (o.m.op.length : Int) + 2 * (o.m.dn.length : Int) := by omega
    rw [e] at this
    exact this
  have HO3 : Hid (OwnSB w l3 h3 v3 o.se) := o3
  obtain ⟨p1, c1, rfl⟩ := OwnC.shape o1
  obtain ⟨p2, c2, rfl⟩ := OwnC.shape o2
  obtain ⟨p3, c3, rfl⟩ := OwnSr.shape o3.1
  clear o1 o2 o3 h
  have hA0 : Hid (Below w.heap.size w _) := all_alloc w (.cells #[.int .i64 o.m.nx, .slice p1 o.m.op.length c1, .slice p2 o.m.dn.length c2, .slice p3 o.se.length c3, .int .i64 o.id, .int .i64 o.co] 33)
  have hX : Hid _ := heap_alloc_new w (.cells #[.int .i64 o.m.nx, .slice p1 o.m.op.length c1, .slice p2 o.m.dn.length c2, .slice p3 o.se.length c3, .int .i64 o.id, .int .i64 o.co] 33)
  obtain ⟨K1, hK1⟩ : ∃ K, Hid (1 + 4 * (o.m.op.length : Int) + 2 * (o.m.dn.length : Int) = K) := ⟨_, (show _ = _ from rfl)⟩
  rw [hK1.out] at H1 H2 ⊢
  obtain ⟨K2, hK2⟩ : ∃ K, Hid (K1 + (o.se.length : Int) = K) := ⟨_, (show _ = _ from rfl)⟩
  rw [hK2.out] at H2 ⊢
  go_enter Try.func12, Try.ntmps12
  go_wp2_with (first
    | (go_at_call 11; refine (H1.out _ hA0.out).mono ?_; rintro e w1 ⟨rfl, m1, m2, u1⟩; have hX1 : Hid _ := (u1.block w.heap.size (by simp) (by omega)).trans hX.out; have x3 := cellW hX1.out 3 _ rfl w1 (Below.refl _ _))
    | (go_at_call 36; refine (H2.out _ (OwnSB.same (OwnSB.same HO3.out (SameR.below hA0.out (by omega))) (u1.same (by simp; omega) (fun k a b => by omega)))).mono ?_; rintro e w2 ⟨rfl, m3, u2⟩))
  go_ret
  have hz1 : w.heap.size + 1 ≤ w1.heap.size := by have := u1.size; simpa using this
  have hz2 := u2.size
  exact ⟨rfl, ⟨by omega, l1, h1, l2, h2, l3, h3, hl, hh, OwnC.same m1 (u2.same (by omega) (by omega)) u2.size, OwnC.same m2 (u2.same (by omega) (by omega)) u2.size, m3, d12, d13, d23⟩, TouchR.only (TouchR.after hA0.out (u1.trans u2.touch)) (fun k hk => by omega)⟩
set_option maxRecDepth 100000 in
set_option maxHeartbeats 1600000 in
theorem heldMasterOut_at (o : Mo) (v1 v2 v3 : Value) (w : World) (hn1 : o.m.op.length ≤ 1048576) (hn2 : o.m.dn.length ≤ 1048576) (hn3 : o.se.length ≤ 1048576) (h : RowMo w v1 v2 v3 o.mark) :
    Calls Try.prog 13 #[.agg #[.int .i64 o.m.nx, v1, v2, v3, .int .i64 o.id, .int .i64 o.co], .int .i64 1] w fun e w' => e = .returned (.int .i64 (1 + 4 * (o.m.op.length : Int) + 2 * (o.m.dn.length : Int) + (o.se.length : Int))) ∧ Below w.heap.size w w' := by
  obtain ⟨⟨r1, r2⟩, b, r3⟩ := h
  have H1 : Hid (∀ W, Below w.heap.size w W → Calls Try.prog 37 #[.agg #[.int .i64 o.m.nx, v1, v2], .int .i64 1] W fun e w' => e = .returned (.int .i64 (1 + 4 * (o.m.op.length : Int) + 2 * (o.m.dn.length : Int))) ∧ Below W.heap.size W w') := fun W hW => heldMaster_at o.m.nx o.m.op.length o.m.dn.length v1 v2 W hn1 hn2 (RowC.below r1 hW) (RowC.below r2 hW)
  have H2 : Hid (∀ W, Below w.heap.size w W → Calls Try.prog 38 #[v3, .int .i64 (1 + 4 * (o.m.op.length : Int) + 2 * (o.m.dn.length : Int))] W fun e w' => e = .returned (.int .i64 (1 + 4 * (o.m.op.length : Int) + 2 * (o.m.dn.length : Int) + (o.se.length : Int))) ∧ Below W.heap.size W w') := fun W hW => by
    have := rcHeldStringS (1 + 4 * o.m.op.length + 2 * o.m.dn.length) (by omega) b v3 o.se.length W hn3 (OwnSr.below r3 hW)
    have e : ((1 + 4 * o.m.op.length + 2 * o.m.dn.length : Nat) : Int) = 1 + 4 * (o.m.op.length : Int) + 2 * (o.m.dn.length : Int) := by omega
    rw [e] at this
    exact this
  obtain ⟨p1, c1, rfl⟩ := RowC.shape r1
  obtain ⟨p2, c2, rfl⟩ := RowC.shape r2
  obtain ⟨p3, c3, rfl⟩ := OwnSr.shape r3
  clear r1 r2 r3
  generalize o.mark.m.op.length = z1 at *
  generalize o.mark.m.dn.length = z2 at *
  generalize o.mark.se.length = z3 at *
  have hA0 : Hid (Below w.heap.size w _) := all_alloc w (.cells #[.int .i64 o.m.nx, .slice p1 z1 c1, .slice p2 z2 c2, .slice p3 z3 c3, .int .i64 o.id, .int .i64 o.co] 33)
  have hX : Hid _ := heap_alloc_new w (.cells #[.int .i64 o.m.nx, .slice p1 z1 c1, .slice p2 z2 c2, .slice p3 z3 c3, .int .i64 o.id, .int .i64 o.co] 33)
  have f1 : ¬ 1 + 4 * (o.m.op.length : Int) + 2 * (o.m.dn.length : Int) < 0 := by omega
  have f2 : ¬ 1 + 4 * (o.m.op.length : Int) + 2 * (o.m.dn.length : Int) + (o.se.length : Int) < 0 := by omega
  generalize 1 + 4 * (o.m.op.length : Int) + 2 * (o.m.dn.length : Int) = K1 at *
  generalize K1 + (o.se.length : Int) = K2 at *
  go_enter Try.func13, Try.ntmps13
  go_wp2_with (first
    | (go_at_call 37; refine (H1.out _ hA0.out).mono ?_; rintro e w1 ⟨rfl, hb1⟩; have x3 := cellW hX.out 3 _ rfl w1 hb1)
    | (go_at_call 38; refine (H2.out _ (keepB hA0.out (Nat.le_refl _) hb1)).mono ?_; rintro e w2 ⟨rfl, hb2⟩))
  go_ret
  exact ⟨rfl, keepB (keepB hA0.out (Nat.le_refl _) hb1) (Nat.le_refl _) hb2⟩
set_option maxRecDepth 100000 in
set_option maxHeartbeats 1600000 in
theorem eqMasterOut_same (o : Mo) (v1 v2 v3 u1 u2 u3 : Value) (w : World) (ht : o.m.tot ≤ 2000000) (hb : o.m.op.length ≤ 1048576 ∧ o.m.dn.length ≤ 1048576 ∧ o.se.length ≤ 100000) (h1 : RowMo w v1 v2 v3 o) (h2 : RowMo w u1 u2 u3 o) (HEM : ∀ W, Below w.heap.size w W → Calls Try.prog 10 #[.agg #[.int .i64 o.m.nx, v1, v2], .agg #[.int .i64 o.m.nx, u1, u2]] W fun e w' => e = .returned (.bool true) ∧ Below W.heap.size W w') :
    Calls Try.prog 9 #[.agg #[.int .i64 o.m.nx, v1, v2, v3, .int .i64 o.id, .int .i64 o.co], .agg #[.int .i64 o.m.nx, u1, u2, u3, .int .i64 o.id, .int .i64 o.co]] w fun e w' => e = .returned (.bool true) ∧ Below w.heap.size w w' := by
  obtain ⟨b1, r1⟩ := h1.s
  obtain ⟨b2, r2⟩ := h2.s
  have H1 : Hid (∀ W : World, Below w.heap.size w W → Calls Try.prog 10 #[.agg #[.int .i64 o.m.nx, v1, v2], .agg #[.int .i64 o.m.nx, u1, u2]] W fun e w' => e = .returned (.bool true) ∧ Below W.heap.size W w') := HEM
  have H3 : Hid (∀ W : World, Below w.heap.size w W → Calls Try.prog 31 #[v3, u3] W fun e w' => e = .returned (.bool true) ∧ Below W.heap.size W w') := fun W hW => rcEqStringS b1 b2 v3 u3 o.se W hb.2.2 (OwnSr.below r1 hW) (OwnSr.below r2 hW)
  have el : (o.id != o.id) = false := by simp
  have er : (o.co != o.co) = false := by simp
  obtain ⟨⟨⟨a1, c1, rfl, _⟩, ⟨a2, c2, rfl, _⟩⟩, _⟩ := h1
  obtain ⟨⟨⟨q1, d1, rfl, _⟩, ⟨q2, d2, rfl, _⟩⟩, _⟩ := h2
  obtain ⟨a3, c3, rfl⟩ := OwnSr.shape r1
  obtain ⟨q3, d3, rfl⟩ := OwnSr.shape r2
  clear hb ht HEM r1 r2
  have hA : Below w.heap.size w _ := keepB (all_alloc w (.cells #[.int .i64 o.m.nx, .slice a1 o.m.op.length c1, .slice a2 o.m.dn.length c2, .slice a3 o.se.length c3, .int .i64 o.id, .int .i64 o.co] 33)) (Nat.le_refl _) (all_alloc _ (.cells #[.int .i64 o.m.nx, .slice q1 o.m.op.length d1, .slice q2 o.m.dn.length d2, .slice q3 o.se.length d3, .int .i64 o.id, .int .i64 o.co] 33))
  have hX : Hid _ := blk (heap_alloc_new w (.cells #[.int .i64 o.m.nx, .slice a1 o.m.op.length c1, .slice a2 o.m.dn.length c2, .slice a3 o.se.length c3, .int .i64 o.id, .int .i64 o.co] 33)) (all_alloc _ (.cells #[.int .i64 o.m.nx, .slice q1 o.m.op.length d1, .slice q2 o.m.dn.length d2, .slice q3 o.se.length d3, .int .i64 o.id, .int .i64 o.co] 33))
  have hY : Hid _ := heap_alloc_new (w.alloc (.cells #[.int .i64 o.m.nx, .slice a1 o.m.op.length c1, .slice a2 o.m.dn.length c2, .slice a3 o.se.length c3, .int .i64 o.id, .int .i64 o.co] 33)) (.cells #[.int .i64 o.m.nx, .slice q1 o.m.op.length d1, .slice q2 o.m.dn.length d2, .slice q3 o.se.length d3, .int .i64 o.id, .int .i64 o.co] 33)
  rw [show (w.alloc (.cells #[.int .i64 o.m.nx, .slice a1 o.m.op.length c1, .slice a2 o.m.dn.length c2, .slice a3 o.se.length c3, .int .i64 o.id, .int .i64 o.co] 33)).heap.size = w.heap.size + 1 by simp] at hY
  go_enter Try.func9, Try.ntmps9
  go_upto_region 1 with fail
  generalize (w.alloc (.cells #[.int .i64 o.m.nx, .slice a1 o.m.op.length c1, .slice a2 o.m.dn.length c2, .slice a3 o.se.length c3, .int .i64 o.id, .int .i64 o.co] 33)).alloc (.cells #[.int .i64 o.m.nx, .slice q1 o.m.op.length d1, .slice q2 o.m.dn.length d2, .slice q3 o.se.length d3, .int .i64 o.id, .int .i64 o.co] 33) = A at hA hX hY ⊢
  have xa0 := cellW hX.out 0 _ rfl A (Below.refl _ _)
  have xb0 := cellW hY.out 0 _ rfl A (Below.refl _ _)
  have xa1 := cellW hX.out 1 _ rfl A (Below.refl _ _)
  have xb1 := cellW hY.out 1 _ rfl A (Below.refl _ _)
  have xa2 := cellW hX.out 2 _ rfl A (Below.refl _ _)
  have xb2 := cellW hY.out 2 _ rfl A (Below.refl _ _)
  have xa3 : Hid _ := cellW hX.out 3 _ rfl
  have xb3 : Hid _ := cellW hY.out 3 _ rfl
  have xa4 : Hid _ := cellW hX.out 4 _ rfl
  have xb4 : Hid _ := cellW hY.out 4 _ rfl
  have xa5 : Hid _ := cellW hX.out 5 _ rfl
  have xb5 : Hid _ := cellW hY.out 5 _ rfl
  go_wp2_with (first
    | (go_at_call 10; refine (H1.out _ hA).mono ?_; rintro e w1 ⟨rfl, hb1⟩; have hB1 := keepB hA (Nat.le_refl _) hb1; have a3' := xa3.out w1 hb1; have b3' := xb3.out w1 hb1)
    | (go_at_call 31; refine (H3.out _ hB1).mono ?_; rintro e w2 ⟨rfl, hb2⟩; have hB2 := keepB hB1 (Nat.le_refl _) hb2; have a4' := xa4.out w2 (keepB hb1 (Nat.le_refl _) hb2); have b4' := xb4.out w2 (keepB hb1 (Nat.le_refl _) hb2); have a5' := xa5.out w2 (keepB hb1 (Nat.le_refl _) hb2); have b5' := xb5.out w2 (keepB hb1 (Nat.le_refl _) hb2)))
  go_ret
  exact ⟨rfl, hB2⟩
end Go.Proofs.Ytghchcipobcpjaa
