/- THE LAW'S OWN QUESTIONS of a table: copied, marked, still marked. -/
import Derived.Test.YtineecongiplgaaQpOwnU
import Derived.Test.YtineecongiplgaaQpPathP
import Derived.Test.YtineecongiplgaaQpPaSs
namespace Go.Proofs.Ytineecongiplgaa
open Go.RowKit
set_option linter.unusedVariables false
set_option linter.unusedSimpArgs false

set_option maxRecDepth 100000 in
set_option maxHeartbeats 1600000 in
theorem toTable_any (t : Tb) (p1 p2 : Option Addr) (c1 c2 : Nat) (w : World) (hl1 : t.cs.length ≤ 1048576) (hl2 : t.rs.length ≤ 1048576) (hin1 : InI w p1 t.cs) (hin2 : InI w p2 t.rs) :
    Calls Try.prog 74 #[.agg #[.slice p1 t.cs.length c1, .slice p2 t.rs.length c2]] w fun x w' => ∃ v1 v2, x = .returned (.agg #[v1, v2]) ∧ OwnT w' w.heap.size v1 v2 t ∧ Below w.heap.size w w' := by
  have H1 : Hid (∀ W, Below w.heap.size w W → Calls Try.prog 94 #[.slice p1 t.cs.length c1] W fun e w' => ∃ v, e = .returned v ∧ OwnI w' W.heap.size v t.cs ∧ Below W.heap.size W w') := fun W hW => toInt64S_any p1 c1 t.cs W hl1 (hin1.below hW)
  have H2 : Hid (∀ W, Below w.heap.size w W → Calls Try.prog 94 #[.slice p2 t.rs.length c2] W fun e w' => ∃ v, e = .returned v ∧ OwnI w' W.heap.size v t.rs ∧ Below W.heap.size W w') := fun W hW => toInt64S_any p2 c2 t.rs W hl2 (hin2.below hW)
  clear hin1 hin2
  go_enter Try.func74, Try.ntmps74
  go_upto_region 2 with fail
  have hX : Hid _ := blk (blk (heap_alloc_new w (.cells #[.slice p1 t.cs.length c1, .slice p2 t.rs.length c2] 57)) (all_alloc _ (.cells #[.slice none 0 0, .slice none 0 0] 62))) (all_alloc _ (.cells #[.slice none 0 0, .slice none 0 0] 62))
  have hY : Hid _ := blk (heap_alloc_new (w.alloc (.cells #[.slice p1 t.cs.length c1, .slice p2 t.rs.length c2] 57)) (.cells #[.slice none 0 0, .slice none 0 0] 62)) (all_alloc _ (.cells #[.slice none 0 0, .slice none 0 0] 62))
  have hZ : Hid _ := heap_alloc_new ((w.alloc (.cells #[.slice p1 t.cs.length c1, .slice p2 t.rs.length c2] 57)).alloc (.cells #[.slice none 0 0, .slice none 0 0] 62)) (.cells #[.slice none 0 0, .slice none 0 0] 62)
  have hA0 : Below w.heap.size w (((w.alloc (.cells #[.slice p1 t.cs.length c1, .slice p2 t.rs.length c2] 57)).alloc (.cells #[.slice none 0 0, .slice none 0 0] 62)).alloc (.cells #[.slice none 0 0, .slice none 0 0] 62)) := keepB (keepB (all_alloc w _) (Nat.le_refl _) (all_alloc _ _)) (Nat.le_refl _) (all_alloc _ _)
  have e1 : (w.alloc (.cells #[.slice p1 t.cs.length c1, .slice p2 t.rs.length c2] 57)).heap.size = w.heap.size + 1 := by simp
  have e2 : ((w.alloc (.cells #[.slice p1 t.cs.length c1, .slice p2 t.rs.length c2] 57)).alloc (.cells #[.slice none 0 0, .slice none 0 0] 62)).heap.size = w.heap.size + 1 + 1 := by simp
  have e3 : (((w.alloc (.cells #[.slice p1 t.cs.length c1, .slice p2 t.rs.length c2] 57)).alloc (.cells #[.slice none 0 0, .slice none 0 0] 62)).alloc (.cells #[.slice none 0 0, .slice none 0 0] 62)).heap.size = w.heap.size + 1 + 1 + 1 := by simp
  rw [e1] at hY
  rw [e2] at hZ
  generalize ((w.alloc (.cells #[.slice p1 t.cs.length c1, .slice p2 t.rs.length c2] 57)).alloc (.cells #[.slice none 0 0, .slice none 0 0] 62)).alloc (.cells #[.slice none 0 0, .slice none 0 0] 62) = A at hX hY hZ hA0 e3 ⊢
  clear e1 e2
  have x0 := cellW hX.out 0 _ rfl A (Below.refl _ _)
  go_upto_region 3 with (go_at_call 94; refine (H1.out _ hA0).mono ?_; rintro e w2 ⟨v, rfl, own1, hb2⟩; obtain ⟨pv, cv, rfl⟩ := own1.shape; have hZ2 : Hid _ := blk hZ.out hb2; have z0 := cellW hZ2.out 0 _ rfl w2 (Below.refl _ _); have f0 := frozenW hZ2.out 0 w2 (Below.refl _ _))
  have hlt1 := OwnI.lt own1
  have hs2 : A.heap.size ≤ w2.heap.size := hb2.size
  have hX3 : Hid _ := blk_far (a := ⟨w.heap.size + 1 + 1, 0, none⟩) (blk hX.out hb2) (by simp only; omega) (.slice pv t.cs.length cv)
  have hY3 : Hid _ := blk_far (a := ⟨w.heap.size + 1 + 1, 0, none⟩) (blk hY.out hb2) (by simp only; omega) (.slice pv t.cs.length cv)
  have hZ3 : Hid (_ = some (Obj.cells #[.slice pv t.cs.length cv, .slice none 0 0] _ _)) := blk_set hZ2.out 0 (.slice pv t.cs.length cv)
  have own3 : Hid (OwnI _ _ _ t.cs) := OwnI.farT own1 (a := ⟨w.heap.size + 1 + 1, 0, none⟩) (by simp only; omega) (.slice pv t.cs.length cv)
  have hB3 : Below w.heap.size w (w2.setCell ⟨w.heap.size + 1 + 1, 0, none⟩ (.slice pv t.cs.length cv)) := (keepB hA0 (Nat.le_refl _) hb2).setCell (by simp only; omega) _
  have e4 : (w2.setCell ⟨w.heap.size + 1 + 1, 0, none⟩ (.slice pv t.cs.length cv)).heap.size = w2.heap.size := by simp [World.setCell]
  generalize w2.setCell ⟨w.heap.size + 1 + 1, 0, none⟩ (.slice pv t.cs.length cv) = w3 at hX3 hY3 hZ3 own3 hB3 e4 ⊢
  rw [← e4] at hlt1
  have hs3 : A.heap.size ≤ w3.heap.size := by omega
  clear own1 hZ2 z0 f0 x0 hX hY hZ hA0 hb2 e4 hs2
  have x1 := cellW hX3.out 1 _ rfl w3 (Below.refl _ _)
  go_wp2_with (go_at_call 94; refine (H2.out _ hB3).mono ?_; rintro e w4 ⟨v', rfl, own2, hb4⟩; obtain ⟨pu, cu, rfl⟩ := own2.shape; have hY4 : Hid _ := blk hY3.out hb4; have hZ4 : Hid _ := blk hZ3.out hb4; have z0 := cellW hZ4.out 0 _ rfl w4 (Below.refl _ _); have z1 := cellW hZ4.out 1 _ rfl w4 (Below.refl _ _); have f1 := frozenW hZ4.out 1 w4 (Below.refl _ _); have y0 := cellW hY4.out 0 _ rfl w4 (Below.refl _ _); have y1 := cellW hY4.out 1 _ rfl w4 (Below.refl _ _); have g0 := frozenW hY4.out 0 w4 (Below.refl _ _); have g1 := frozenW hY4.out 1 w4 (Below.refl _ _))
  have hB4 : Below w.heap.size w w4 := keepB hB3 (Nat.le_refl _) hb4
  have hT : OwnT w4 A.heap.size (.slice pv t.cs.length cv) (.slice pu t.rs.length cu) t := OwnT.mk2 (own3.out.below hb4) own2 hs3 (fun k hk => (hlt1 k hk).2)
  exact bodyPost_ret (v := .agg #[.slice pv t.cs.length cv, .slice pu t.rs.length cu]) (by simp [results, Try.results74, go_sem, y0, y1]) rfl ⟨_, _, rfl, OwnT.leT (OwnT.farT (OwnT.farT (OwnT.farT hT (by simp only; omega) _) (by simp only; omega) _) (by simp only; omega) _) (by omega), (Below.setCell (Below.setCell (Below.setCell hB4 (by simp only; omega) _) (by simp only; omega) _) (by simp only; omega) _)⟩
/-- what has grown but for two rows -/
structure Grown2 (w w' : World) (r1 r2 : Option Nat) : Prop where
  os : w'.os = w.os
  tape : w'.tape = w.tape
  output : w'.output = w.output
  size : w.heap.size ≤ w'.heap.size
  block : ∀ k, k < w.heap.size → some k ≠ r1 → some k ≠ r2 → w'.heap[k]? = w.heap[k]?
theorem grown_afterT {w a b : World} {row : Option Nat} (h : Below w.heap.size w a) (g : a.grownBy b row) : w.grownBy b row :=
  ⟨g.os.trans h.os, g.tape.trans h.tape, g.output.trans h.output, Nat.le_trans h.size g.size, fun i hi hr => (g.block i (Nat.lt_of_lt_of_le hi h.size) hr).trans (h.block i hi)⟩
theorem Grown2.of {w a b : World} {r1 r2 : Option Nat} (g1 : w.grownBy a r1) (g2 : a.grownBy b r2) : Grown2 w b r1 r2 :=
  ⟨g2.os.trans g1.os, g2.tape.trans g1.tape, g2.output.trans g1.output, Nat.le_trans g1.size g2.size, fun i hi h1 h2 => (g2.block i (Nat.lt_of_lt_of_le hi g1.size) h2).trans (g1.block i hi h1)⟩
theorem OwnI.grownT {w w' : World} {base : Nat} {u v : Value} {zs : List Int} (h : OwnI w base v zs) (g : w.grownBy w' u.ownBlock) (hne : ∀ a b, u.ownBlock = some a → v.ownBlock = some b → a ≠ b) : OwnI w' base v zs := by
  refine ⟨h.1, h.2.imp id ?_⟩
  rintro ⟨k, cap, cur, e1, e2, e3, e4⟩
  refine ⟨k, cap, cur, e1, e2, (g.block k (Array.getElem?_eq_some_iff.1 e3).1 ?_).trans e3, e4⟩
  intro e
  exact hne k k e.symm (by rw [e1]; rfl) rfl
theorem Below.grown2 {w a b : World} {r1 r2 : Option Nat} (h : Below w.heap.size w a) (g : Grown2 a b r1 r2) (h1 : ∀ k, r1 = some k → w.heap.size ≤ k) (h2 : ∀ k, r2 = some k → w.heap.size ≤ k) : Below w.heap.size w b :=
  ⟨g.os.trans h.os, g.tape.trans h.tape, g.output.trans h.output, Nat.le_trans h.size g.size, fun i hi => (g.block i (Nat.lt_of_lt_of_le hi h.size) (fun e => by have := h1 i e.symm; omega) (fun e => by have := h2 i e.symm; omega)).trans (h.block i hi)⟩
/-- a table marked -/
def markT (n1 n2 : Nat) : Tb := ⟨countK 1 n1, countK (1 + (n1 : Int)) n2⟩
end Go.Proofs.Ytineecongiplgaa
/- THE DRAW of a path: what it keeps in memory (as DrawQ does for tables). -/
namespace Go.Proofs.Ytineecongiplgaa
open Go.RowKit
set_option linter.unusedVariables false
set_option linter.unusedSimpArgs false

theorem OwnI.keptH {w w' : World} {base : Nat} {v : Value} {zs : List Int} (h : OwnI w base v zs) (hk : ∀ g, base ≤ g → g < w.heap.size → w'.heap[g]? = w.heap[g]?) : OwnI w' base v zs := by
  refine ⟨h.1, h.2.imp id ?_⟩
  rintro ⟨g, cap, cur, e1, e2, e3, e4⟩
  exact ⟨g, cap, cur, e1, e2, (hk g e2 (Array.getElem?_eq_some_iff.1 e3).1).trans e3, e4⟩
theorem Dr.set {b B : Nat} {a : Option Addr} {len cap : Nat} {w0 w : World} (h : Dr b B a len cap w0 w) {g : Nat} (hb : b < g) (hw : w0.heap.size ≤ g) (o : Nat) (v : Value) : Dr b B a len cap w0 (w.setCell ⟨g, o, none⟩ v) :=
  ⟨h.src.of_block (Below.heap_setCell _ _ _ _ (by show b ≠ g; omega)), Rb_blwP h.rb ((Below.refl B w).setCell (by have := h.le; show B ≤ g; omega) _),
    ⟨h.grb.os, h.grb.tape, h.grb.output, by simpa [World.setCell] using h.grb.size, fun k hk hkb => (Below.heap_setCell _ _ _ _ (by show k ≠ g; omega)).trans (h.grb.block k hk hkb)⟩, by simpa [World.setCell] using h.lt, h.le⟩
/-- the path in block V, the answer's place in block P, the rows behind P and not in V -/
structure QP (b B : Nat) (a : Option Addr) (len cap : Nat) (w0 : World) (P V : Nat) (t : Tb) (v1 v2 : Value) (w : World) : Prop where
  dr : Dr b B a len cap w0 w
  boxV : w.heap[V]? = some (.cells #[v1, v2] 26 (0, 0))
  boxP : w.heap[P]? = some (.cells #[.slice none 0 0, .slice none 0 0] 26 (0, 0))
  own : OwnT w (P + 1) v1 v2 t
  nv : ∀ k, (v1.ownBlock = some k ∨ v2.ownBlock = some k) → k ≠ V
  bP : b < P
  wP : w0.heap.size ≤ P
  PV : P < V
theorem OwnT.keptT {w w' : World} {base : Nat} {v1 v2 : Value} {t : Tb} (h : OwnT w base v1 v2 t) (hk : ∀ g, base ≤ g → g < w.heap.size → w'.heap[g]? = w.heap[g]?) : OwnT w' base v1 v2 t := ⟨h.c.keptH hk, h.r.keptH hk, h.ne⟩
theorem QP.grb {b B : Nat} {a : Option Addr} {len cap : Nat} {w0 : World} {P V : Nat} {t : Tb} {v1 v2 : Value} {w w' : World} (k : QP b B a len cap w0 P V t v1 v2 w) (hd : Dr b B a len cap w0 w') (hg : Grb b w w') : QP b B a len cap w0 P V t v1 v2 w' :=
  ⟨hd, (hg.block V (Array.getElem?_eq_some_iff.1 k.boxV).1 (by have := k.bP; have := k.PV; omega)).trans k.boxV, (hg.block P (Array.getElem?_eq_some_iff.1 k.boxP).1 (by have := k.bP; omega)).trans k.boxP, k.own.keptT fun g h1 h2 => hg.block g h2 (by have := k.bP; omega), k.nv, k.bP, k.wP, k.PV⟩
theorem QP.below {b B : Nat} {a : Option Addr} {len cap : Nat} {w0 : World} {P V : Nat} {t : Tb} {v1 v2 : Value} {w w' : World} (k : QP b B a len cap w0 P V t v1 v2 w) (hb : Below w.heap.size w w') : QP b B a len cap w0 P V t v1 v2 w' := k.grb (k.dr.below hb) (grb_of_below hb)
theorem QP.only {b B : Nat} {a : Option Addr} {len cap : Nat} {w0 : World} {P V : Nat} {t : Tb} {v1 v2 : Value} {w w' : World} (k : QP b B a len cap w0 P V t v1 v2 w) (hd : Dr b B a len cap w0 w') (ho : Only b w w') : QP b B a len cap w0 P V t v1 v2 w' := k.grb hd ho.grb
theorem OwnT.farK {w : World} {base : Nat} {v1 v2 : Value} {t : Tb} (h : OwnT w base v1 v2 t) {G : Nat} (hn : ∀ k, (v1.ownBlock = some k ∨ v2.ownBlock = some k) → k ≠ G) (o : Nat) (v : Value) : OwnT (w.setCell ⟨G, o, none⟩ v) base v1 v2 t :=
  ⟨OwnI.grownT (u := .slice (some ⟨G, 0, none⟩) 0 0) h.c (grown_setI (grown_reflI _ _) _ _) (fun i j hi hj => by cases hi; exact fun e => hn j (.inl hj) e.symm), OwnI.grownT (u := .slice (some ⟨G, 0, none⟩) 0 0) h.r (grown_setI (grown_reflI _ _) _ _) (fun i j hi hj => by cases hi; exact fun e => hn j (.inr hj) e.symm), h.ne⟩
/-- something is written elsewhere -/
theorem QP.farK {b B : Nat} {a : Option Addr} {len cap : Nat} {w0 : World} {P V : Nat} {t : Tb} {v1 v2 : Value} {w : World} (k : QP b B a len cap w0 P V t v1 v2 w) {G : Nat} (hP : P < G) (hV : G ≠ V) (hn : ∀ k, (v1.ownBlock = some k ∨ v2.ownBlock = some k) → k ≠ G) (o : Nat) (v : Value) : QP b B a len cap w0 P V t v1 v2 (w.setCell ⟨G, o, none⟩ v) :=
  ⟨k.dr.set (by have := k.bP; omega) (by have := k.wP; omega) _ _, blk_far k.boxV (by show V ≠ G; omega) _, blk_far k.boxP (by show P ≠ G; omega) _, k.own.farK hn _ _, k.nv, k.bP, k.wP, k.PV⟩
/-- another path is kept -/
theorem QP.store {b B : Nat} {a : Option Addr} {len cap : Nat} {w0 : World} {P V : Nat} {t : Tb} {v1 v2 : Value} {w : World} (k : QP b B a len cap w0 P V t v1 v2 w) {T : Tb} {u1 u2 : Value} (h : OwnT w (P + 1) u1 u2 T) (hn : ∀ k, (u1.ownBlock = some k ∨ u2.ownBlock = some k) → k ≠ V) :
    QP b B a len cap w0 P V T u1 u2 ((w.setCell ⟨V, 0, none⟩ u1).setCell ⟨V, 1, none⟩ u2) := by
  have h1 := k.bP
  have h2 := k.wP
  have h3 := k.PV
  have key : ∀ (x : World), OwnT x (P + 1) u1 u2 T → ∀ (o : Nat) (v : Value), OwnT (x.setCell ⟨V, o, none⟩ v) (P + 1) u1 u2 T := fun x hx o v =>
    ⟨OwnI.grownT (u := .slice (some ⟨V, 0, none⟩) 0 0) hx.c (grown_setI (grown_reflI _ _) _ _) (fun i j hi hj => by cases hi; exact fun e => hn j (.inl hj) e.symm), OwnI.grownT (u := .slice (some ⟨V, 0, none⟩) 0 0) hx.r (grown_setI (grown_reflI _ _) _ _) (fun i j hi hj => by cases hi; exact fun e => hn j (.inr hj) e.symm), hx.ne⟩
  refine ⟨(k.dr.set (by omega) (by omega) _ _).set (by omega) (by omega) _ _, ?_, ?_, key _ (key _ h _ _) _ _, hn, h1, h2, h3⟩
  · exact blk_set (blk_set k.boxV 0 u1) 1 u2
  · exact blk_far (blk_far k.boxP (by show P ≠ V; omega) _) (by show P ≠ V; omega) _
theorem Dr.behindP {b B : Nat} {a : Option Addr} {len cap : Nat} {w0 w w' : World} (h : Dr b B a len cap w0 w) {P : Nat} (hb : Below (P + 1) w w') (hbP : b < P) (hwP : w0.heap.size ≤ P) : Dr b B a len cap w0 w' :=
  ⟨h.src.of_block (hb.block b (by omega)), Rb_blwP h.rb (hb.mono (by have := h.le; omega)), ⟨hb.os.trans h.grb.os, hb.tape.trans h.grb.tape, hb.output.trans h.grb.output, Nat.le_trans h.grb.size hb.size, fun i hi hne => (hb.block i (by omega)).trans (h.grb.block i hi hne)⟩, Nat.lt_of_lt_of_le h.lt hb.size, h.le⟩
/-- the first list of a path has grown -/
theorem QP.grownC {b B : Nat} {a : Option Addr} {len cap : Nat} {w0 : World} {P V : Nat} {t : Tb} {v1 v2 : Value} {w w' : World} (k : QP b B a len cap w0 P V t v1 v2 w) (hg : w.grownBy w' v1.ownBlock) {l : List Int} {v : Value} (hO : OwnI w' (P + 1) v l) (hv : v.ownBlock = v1.ownBlock ∨ v.ownBlock = some w.heap.size) :
    QP b B a len cap w0 P V ⟨l, t.rs⟩ v v2 (w'.setCell ⟨V, 0, none⟩ v) := by
  have h1 := k.bP
  have h2 := k.wP
  have h3 := k.PV
  have hVl : V < w.heap.size := (Array.getElem?_eq_some_iff.1 k.boxV).1
  have hb : Below (P + 1) w w' := (Below.refl _ _).grown hg (by omega) (fun j e => (OwnI.lt k.own.c j e).1)
  have hbV : w'.heap[V]? = some (.cells #[v1, v2] 26 (0, 0)) := (hg.block V hVl (fun e => k.nv V (.inl e.symm) rfl)).trans k.boxV
  have hbP : w'.heap[P]? = some (.cells #[.slice none 0 0, .slice none 0 0] 26 (0, 0)) := (hb.block P (by omega)).trans k.boxP
  have hr : OwnI w' (P + 1) v2 t.rs := OwnI.grownT k.own.r hg k.own.ne
  have hne : ∀ i j, v.ownBlock = some i → v2.ownBlock = some j → i ≠ j := fun i j hi hj => by
    rcases hv with e | e
    · exact k.own.ne i j (e ▸ hi) hj
    · rw [e] at hi; cases hi; have := (OwnI.lt k.own.r j hj).2; omega
  have hnv : ∀ j, (v.ownBlock = some j ∨ v2.ownBlock = some j) → j ≠ V := fun j hj => by
    rcases hj with hj | hj
    · rcases hv with e | e
      · exact k.nv j (.inl (e ▸ hj))
      · rw [e] at hj; cases hj; omega
    · exact k.nv j (.inr hj)
  exact ⟨(k.dr.behindP hb h1 h2).set (by omega) (by omega) _ _, blk_set hbV 0 v, blk_far hbP (by show P ≠ V; omega) _, OwnT.farK (t := ⟨l, t.rs⟩) ⟨hO, hr, hne⟩ hnv _ _, hnv, h1, h2, h3⟩
/-- the second list of a path has grown -/
theorem QP.grownR {b B : Nat} {a : Option Addr} {len cap : Nat} {w0 : World} {P V : Nat} {t : Tb} {v1 v2 : Value} {w w' : World} (k : QP b B a len cap w0 P V t v1 v2 w) (hg : w.grownBy w' v2.ownBlock) {l : List Int} {v : Value} (hO : OwnI w' (P + 1) v l) (hv : v.ownBlock = v2.ownBlock ∨ v.ownBlock = some w.heap.size) :
    QP b B a len cap w0 P V ⟨t.cs, l⟩ v1 v (w'.setCell ⟨V, 1, none⟩ v) := by
  have h1 := k.bP
  have h2 := k.wP
  have h3 := k.PV
  have hVl : V < w.heap.size := (Array.getElem?_eq_some_iff.1 k.boxV).1
  have hb : Below (P + 1) w w' := (Below.refl _ _).grown hg (by omega) (fun j e => (OwnI.lt k.own.r j e).1)
  have hbV : w'.heap[V]? = some (.cells #[v1, v2] 26 (0, 0)) := (hg.block V hVl (fun e => k.nv V (.inr e.symm) rfl)).trans k.boxV
  have hbP : w'.heap[P]? = some (.cells #[.slice none 0 0, .slice none 0 0] 26 (0, 0)) := (hb.block P (by omega)).trans k.boxP
  have hc : OwnI w' (P + 1) v1 t.cs := OwnI.grownT k.own.c hg (fun i j hi hj e => k.own.ne j i hj hi e.symm)
  have hne : ∀ i j, v1.ownBlock = some i → v.ownBlock = some j → i ≠ j := fun i j hi hj => by
    rcases hv with e | e
    · exact k.own.ne i j hi (e ▸ hj)
    · rw [e] at hj; cases hj; have := (OwnI.lt k.own.c i hi).2; omega
  have hnv : ∀ j, (v1.ownBlock = some j ∨ v.ownBlock = some j) → j ≠ V := fun j hj => by
    rcases hj with hj | hj
    · exact k.nv j (.inl hj)
    · rcases hv with e | e
      · exact k.nv j (.inr (e ▸ hj))
      · rw [e] at hj; cases hj; omega
  exact ⟨(k.dr.behindP hb h1 h2).set (by omega) (by omega) _ _, blk_set hbV 1 v, blk_far hbP (by show P ≠ V; omega) _, OwnT.farK (t := ⟨t.cs, l⟩) ⟨hc, hO, hne⟩ hnv _ _, hnv, h1, h2, h3⟩
/-- a path was drawn -/
def PPath (b B : Nat) (a : Option Addr) (len cap : Nat) (w0 : World) (x : Ending) (w' : World) : Prop := ∃ (t : Tb) (p1 p2 : Option Addr) (c1 c2 g : Nat), x = .returned (.agg #[.slice p1 t.cs.length c1, .slice p2 t.rs.length c2]) ∧ OwnT w' g (.slice p1 t.cs.length c1) (.slice p2 t.rs.length c2) t ∧ w0.heap.size ≤ g ∧ (t.cs.length ≤ 100 ∧ t.rs.length ≤ 100) ∧ Dr b B a len cap w0 w'
/-- the path is handed back -/
theorem QP.back {b B : Nat} {a : Option Addr} {len cap : Nat} {w0 : World} {P V : Nat} {t : Tb} {p1 p2 : Option Addr} {c1 c2 : Nat} {w : World} (k : QP b B a len cap w0 P V t (.slice p1 t.cs.length c1) (.slice p2 t.rs.length c2) w) (hl1 : t.cs.length ≤ 100) (hl2 : t.rs.length ≤ 100) (x y : Value) :
    PPath b B a len cap w0 (.returned (.agg #[.slice p1 t.cs.length c1, .slice p2 t.rs.length c2])) ((w.setCell ⟨P, 0, none⟩ x).setCell ⟨P, 1, none⟩ y) :=
  ⟨t, p1, p2, c1, c2, P + 1, rfl, OwnT.farT (OwnT.farT k.own (Nat.lt_succ_self P) _) (Nat.lt_succ_self P) _, by have := k.wP; omega, ⟨hl1, hl2⟩, (k.dr.set k.bP k.wP _ _).set k.bP k.wP _ _⟩
end Go.Proofs.Ytineecongiplgaa
