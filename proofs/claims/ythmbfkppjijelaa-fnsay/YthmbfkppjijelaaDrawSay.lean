/- THE DRAW of what is said. -/
import Derived.Test.YthmbfkppjijelaaDrawSt
import Derived.Test.YthmbfkppjijelaaSayRT
import Derived.Deep.DeepCutAuto
import Derived.Deep.RegionHeld3
import Derived.Deep.RegionLaw
import Derived.Deep.CutBlock
namespace Go.Proofs.Ythmbfkppjijelaa
open Go.RowKit
set_option linter.unusedVariables false
set_option linter.unusedSimpArgs false

theorem OwnI.keptH {w w' : World} {base : Nat} {v : Value} {zs : List Int} (h : OwnI w base v zs) (hk : ∀ g, base ≤ g → g < w.heap.size → w'.heap[g]? = w.heap[g]?) : OwnI w' base v zs := by
  refine ⟨h.1, h.2.imp id ?_⟩
  rintro ⟨g, cap, cur, e1, e2, e3, e4⟩
  exact ⟨g, cap, cur, e1, e2, (hk g e2 (Array.getElem?_eq_some_iff.1 e3).1).trans e3, e4⟩
/-- what is said in block V, the answer's place in block P, the words behind both -/
structure YV (b B : Nat) (a : Option Addr) (len cap : Nat) (w0 : World) (P V : Nat) (y : Sy) (v : Value) (w : World) : Prop where
  dr : Dr b B a len cap w0 w
  boxV : w.heap[V]? = some (.cells #[.int .i64 y.k, .int .i64 y.f, .int .i64 y.t, .int .i64 y.s.g, .int .i64 y.s.o, .int .i64 y.s.b, .int .i64 y.s.h, v, .string y.b] 27 (0, 0))
  boxP : w.heap[P]? = some (.cells #[.int .i64 0, .int .i64 0, .int .i64 0, .int .i64 0, .int .i64 0, .int .i64 0, .int .i64 0, .slice none 0 0, .string ⟨#[]⟩] 27 (0, 0))
  row : OwnI w (V + 1) v y.ws
  bP : b < P
  wP : w0.heap.size ≤ P
  PV : P < V
theorem YV.grb {b B : Nat} {a : Option Addr} {len cap : Nat} {w0 : World} {P V : Nat} {y : Sy} {v : Value} {w : World} {w' : World} (k : YV b B a len cap w0 P V y v w) (hd : Dr b B a len cap w0 w') (hg : Grb b w w') : YV b B a len cap w0 P V y v w' :=
  ⟨hd, (hg.block V (Array.getElem?_eq_some_iff.1 k.boxV).1 (by have := k.bP; have := k.PV; omega)).trans k.boxV, (hg.block P (Array.getElem?_eq_some_iff.1 k.boxP).1 (by have := k.bP; omega)).trans k.boxP, k.row.keptH fun g h1 h2 => hg.block g h2 (by have := k.bP; have := k.PV; omega), k.bP, k.wP, k.PV⟩
theorem YV.below {b B : Nat} {a : Option Addr} {len cap : Nat} {w0 : World} {P V : Nat} {y : Sy} {v : Value} {w : World} {w' : World} (k : YV b B a len cap w0 P V y v w) (hb : Below w.heap.size w w') : YV b B a len cap w0 P V y v w' := k.grb (k.dr.below hb) (grb_of_below hb)
theorem YV.base {b B : Nat} {a : Option Addr} {len cap : Nat} {w0 : World} {P V : Nat} {y : Sy} {v : Value} {w : World} (k : YV b B a len cap w0 P V y v w) : V + 1 ≤ w.heap.size := (Array.getElem?_eq_some_iff.1 k.boxV).1
theorem YV.cellV {b B : Nat} {a : Option Addr} {len cap : Nat} {w0 : World} {P V : Nat} {y : Sy} {v : Value} {w : World} (k : YV b B a len cap w0 P V y v w) : w.cell? ⟨V, 0, none⟩ = some (.int .i64 y.k) ∧ w.cell? ⟨V, 1, none⟩ = some (.int .i64 y.f) ∧ w.cell? ⟨V, 2, none⟩ = some (.int .i64 y.t) ∧ w.cell? ⟨V, 3, none⟩ = some (.int .i64 y.s.g) ∧ w.cell? ⟨V, 4, none⟩ = some (.int .i64 y.s.o) ∧ w.cell? ⟨V, 5, none⟩ = some (.int .i64 y.s.b) ∧ w.cell? ⟨V, 6, none⟩ = some (.int .i64 y.s.h) ∧ w.cell? ⟨V, 7, none⟩ = some v ∧ w.cell? ⟨V, 8, none⟩ = some (.string y.b) ∧ ∀ i, w.frozen? ⟨V, i, none⟩ = false :=
  ⟨cellW k.boxV 0 _ rfl w (Below.refl _ _), cellW k.boxV 1 _ rfl w (Below.refl _ _), cellW k.boxV 2 _ rfl w (Below.refl _ _), cellW k.boxV 3 _ rfl w (Below.refl _ _), cellW k.boxV 4 _ rfl w (Below.refl _ _), cellW k.boxV 5 _ rfl w (Below.refl _ _), cellW k.boxV 6 _ rfl w (Below.refl _ _), cellW k.boxV 7 _ rfl w (Below.refl _ _), cellW k.boxV 8 _ rfl w (Below.refl _ _), fun i => frozenW k.boxV i w (Below.refl _ _)⟩
theorem YV.cellP {b B : Nat} {a : Option Addr} {len cap : Nat} {w0 : World} {P V : Nat} {y : Sy} {v : Value} {w : World} (k : YV b B a len cap w0 P V y v w) : w.cell? ⟨P, 0, none⟩ = some (.int .i64 0) ∧ w.cell? ⟨P, 1, none⟩ = some (.int .i64 0) ∧ w.cell? ⟨P, 2, none⟩ = some (.int .i64 0) ∧ w.cell? ⟨P, 3, none⟩ = some (.int .i64 0) ∧ w.cell? ⟨P, 4, none⟩ = some (.int .i64 0) ∧ w.cell? ⟨P, 5, none⟩ = some (.int .i64 0) ∧ w.cell? ⟨P, 6, none⟩ = some (.int .i64 0) ∧ w.cell? ⟨P, 7, none⟩ = some (.slice none 0 0) ∧ w.cell? ⟨P, 8, none⟩ = some (.string ⟨#[]⟩) ∧ ∀ i, w.frozen? ⟨P, i, none⟩ = false :=
  ⟨cellW k.boxP 0 _ rfl w (Below.refl _ _), cellW k.boxP 1 _ rfl w (Below.refl _ _), cellW k.boxP 2 _ rfl w (Below.refl _ _), cellW k.boxP 3 _ rfl w (Below.refl _ _), cellW k.boxP 4 _ rfl w (Below.refl _ _), cellW k.boxP 5 _ rfl w (Below.refl _ _), cellW k.boxP 6 _ rfl w (Below.refl _ _), cellW k.boxP 7 _ rfl w (Below.refl _ _), cellW k.boxP 8 _ rfl w (Below.refl _ _), fun i => frozenW k.boxP i w (Below.refl _ _)⟩
theorem YV.set {b B : Nat} {a : Option Addr} {len cap : Nat} {w0 : World} {P V : Nat} {y : Sy} {v : Value} {w : World} (k : YV b B a len cap w0 P V y v w) (i : Nat) (x : Value) (y' : Sy) (v' : Value) (hc : (#[.int .i64 y.k, .int .i64 y.f, .int .i64 y.t, .int .i64 y.s.g, .int .i64 y.s.o, .int .i64 y.s.b, .int .i64 y.s.h, v, .string y.b] : Array Value).setIfInBounds i x = #[.int .i64 y'.k, .int .i64 y'.f, .int .i64 y'.t, .int .i64 y'.s.g, .int .i64 y'.s.o, .int .i64 y'.s.b, .int .i64 y'.s.h, v', .string y'.b]) (hr : OwnI w (V + 1) v' y'.ws) : YV b B a len cap w0 P V y' v' (w.setCell ⟨V, i, none⟩ x) := by
  have h1 := k.bP
  have h2 := k.wP
  have h3 := k.PV
  refine ⟨k.dr.set (by omega) (by omega) _ _, ?_, ?_, hr.far (by show V < V + 1; omega) _, h1, h2, h3⟩
  · rw [← hc]; exact Joins.block_setCell k.boxV x
  · exact (Below.heap_setCell _ _ _ _ (by show P ≠ V; omega)).trans k.boxP
theorem YV.setT {b B : Nat} {a : Option Addr} {len cap : Nat} {w0 : World} {P V : Nat} {y : Sy} {v : Value} {w : World} (k : YV b B a len cap w0 P V y v w) (n : Int) : YV b B a len cap w0 P V { y with t := n } v (w.setCell ⟨V, 2, none⟩ (.int .i64 n)) := k.set 2 _ _ _ rfl k.row
theorem YV.setK {b B : Nat} {a : Option Addr} {len cap : Nat} {w0 : World} {P V : Nat} {y : Sy} {v : Value} {w : World} (k : YV b B a len cap w0 P V y v w) (n : Int) : YV b B a len cap w0 P V { y with k := n } v (w.setCell ⟨V, 0, none⟩ (.int .i64 n)) := k.set 0 _ _ _ rfl k.row
theorem YV.setB {b B : Nat} {a : Option Addr} {len cap : Nat} {w0 : World} {P V : Nat} {y : Sy} {v : Value} {w : World} (k : YV b B a len cap w0 P V y v w) (s : ByteArray) : YV b B a len cap w0 P V { y with b := s } v (w.setCell ⟨V, 8, none⟩ (.string s)) := k.set 8 _ _ _ rfl k.row
theorem YV.setW {b B : Nat} {a : Option Addr} {len cap : Nat} {w0 : World} {P V : Nat} {y : Sy} {v : Value} {w : World} (k : YV b B a len cap w0 P V y v w) (l : List Int) (v' : Value) (hr : OwnI w (V + 1) v' l) : YV b B a len cap w0 P V { y with ws := l } v' (w.setCell ⟨V, 7, none⟩ v') := k.set 7 _ _ _ rfl hr
theorem YV.grown {b B : Nat} {a : Option Addr} {len cap : Nat} {w0 : World} {P V : Nat} {y : Sy} {v : Value} {w : World} {w' : World} (k : YV b B a len cap w0 P V y v w) (gr : w.grownBy w' v.ownBlock) {l : List Int} {v' : Value} (hr : OwnI w' (V + 1) v' l) : ∃ hk : Below (V + 1) w w', YV b B a len cap w0 P V { y with ws := l } v' (w'.setCell ⟨V, 7, none⟩ v') := by
  have h1 := k.bP
  have h2 := k.wP
  have h3 := k.PV
  have hb : Below (V + 1) w w' := (Below.refl _ _).grown gr k.base (fun j e => (World.ownsRow.lt k.row j e).1)
  have hd : Dr b B a len cap w0 w' := ⟨k.dr.src.of_block (hb.block b (by omega)), Rb_blw k.dr.rb (hb.mono (by have := k.dr.le; omega)), ⟨hb.os.trans k.dr.grb.os, hb.tape.trans k.dr.grb.tape, hb.output.trans k.dr.grb.output, Nat.le_trans k.dr.grb.size hb.size, fun i hi hib => (hb.block i (by omega)).trans (k.dr.grb.block i hi hib)⟩, Nat.lt_of_lt_of_le k.dr.lt hb.size, k.dr.le⟩
  refine ⟨hb, hd.set (by omega) (by omega) _ _, ?_, ?_, hr.far (by show V < V + 1; omega) _, h1, h2, h3⟩
  · exact Joins.block_setCell ((hb.block V (by omega)).trans k.boxV) v'
  · exact (Below.heap_setCell _ _ _ _ (by show P ≠ V; omega)).trans ((hb.block P (by omega)).trans k.boxP)
/-- something that may be said was drawn -/
def PSay (b B : Nat) (a : Option Addr) (len cap : Nat) (w0 : World) (x : Ending) (w' : World) : Prop := ∃ (y : Sy) (p : Option Addr) (c g : Nat), x = .returned (.agg #[.int .i64 y.k, .int .i64 y.f, .int .i64 y.t, .int .i64 y.s.g, .int .i64 y.s.o, .int .i64 y.s.b, .int .i64 y.s.h, .slice p y.ws.length c, .string y.b]) ∧ OwnI w' g (.slice p y.ws.length c) y.ws ∧ w0.heap.size ≤ g ∧ y.ws.length ≤ 10 ∧ y.b.size ≤ 30 ∧ Dr b B a len cap w0 w'
/-- where the draw stands -/
def QSay (b B : Nat) (a : Option Addr) (len cap : Nat) (w0 : World) (P V n : Nat) (wx : World) : Prop := ∃ (y : Sy) (p : Option Addr) (c : Nat), Hid (YV b B a len cap w0 P V y (.slice p y.ws.length c) wx) ∧ y.ws.length ≤ n ∧ y.b.size ≤ 21
theorem QSay.mk {b B : Nat} {a : Option Addr} {len cap : Nat} {w0 : World} {P V : Nat} {y : Sy} {v : Value} {w : World} {n : Nat} (k : YV b B a len cap w0 P V y v w) (h1 : y.ws.length ≤ n) (h2 : y.b.size ≤ 21) : QSay b B a len cap w0 P V n w := by
  obtain ⟨p, c, rfl⟩ := k.row.shape
  exact ⟨y, p, c, k, h1, h2⟩
theorem PSay.mk {b B : Nat} {a : Option Addr} {len cap : Nat} {w0 : World} {P V : Nat} {y : Sy} {p : Option Addr} {c : Nat} {w w' : World} (k : YV b B a len cap w0 P V y (.slice p y.ws.length c) w) (h1 : y.ws.length ≤ 10) (h2 : y.b.size ≤ 30) (hw : Dr b B a len cap w0 w') (hk : ∀ g, V + 1 ≤ g → g < w.heap.size → w'.heap[g]? = w.heap[g]?) : PSay b B a len cap w0 (.returned (.agg #[.int .i64 y.k, .int .i64 y.f, .int .i64 y.t, .int .i64 y.s.g, .int .i64 y.s.o, .int .i64 y.s.b, .int .i64 y.s.h, .slice p y.ws.length c, .string y.b])) w' :=
  ⟨y, p, c, V + 1, rfl, k.row.keptH hk, by have := k.wP; have := k.PV; omega, h1, h2, hw⟩

/-- three lists of words, one of them -/
theorem words_at {b : Nat} {X w9 : World} (hb : b < X.heap.size) (ho : Only b (((X.alloc (.cells #[.int .i64 5] 2)).alloc (.cells #[.int .i64 1, .int .i64 2, .int .i64 3, .int .i64 65535] 2)).alloc (.cells #[.slice none 0 0, .slice (some ⟨X.heap.size, 0, none⟩) 1 1, .slice (some ⟨X.heap.size + 1, 0, none⟩) 4 4] 25)) w9) (r : Nat) (hr : r < 3) :
    ∃ (p : Option Addr) (l : List Int) (c : Nat), w9.cell? ⟨X.heap.size + 2, r, none⟩ = some (.slice p l.length c) ∧ OwnI w9 X.heap.size (.slice p l.length c) l ∧ l.length ≤ 4 := by
  have h0 : w9.heap[X.heap.size]? = some (.cells #[.int .i64 5] 2 (0, 0)) := by
    rw [ho.block _ (by omega), heap_alloc_old _ _ (by simp; omega), heap_alloc_old _ _ (by simp), heap_alloc_new]
  have h1 : w9.heap[X.heap.size + 1]? = some (.cells #[.int .i64 1, .int .i64 2, .int .i64 3, .int .i64 65535] 2 (0, 0)) := by
    rw [ho.block _ (by omega), heap_alloc_old _ _ (by simp)]
    have := heap_alloc_new (X.alloc (.cells #[.int .i64 5] 2)) (.cells #[.int .i64 1, .int .i64 2, .int .i64 3, .int .i64 65535] 2)
    rw [show (X.alloc (.cells #[.int .i64 5] 2)).heap.size = X.heap.size + 1 by simp] at this
    exact this
  have h2 : w9.heap[X.heap.size + 2]? = some (.cells #[.slice none 0 0, .slice (some ⟨X.heap.size, 0, none⟩) 1 1, .slice (some ⟨X.heap.size + 1, 0, none⟩) 4 4] 25 (0, 0)) := by
    rw [ho.block _ (by omega)]
    have := heap_alloc_new ((X.alloc (.cells #[.int .i64 5] 2)).alloc (.cells #[.int .i64 1, .int .i64 2, .int .i64 3, .int .i64 65535] 2)) (.cells #[.slice none 0 0, .slice (some ⟨X.heap.size, 0, none⟩) 1 1, .slice (some ⟨X.heap.size + 1, 0, none⟩) 4 4] 25)
    rw [show ((X.alloc (.cells #[.int .i64 5] 2)).alloc (.cells #[.int .i64 1, .int .i64 2, .int .i64 3, .int .i64 65535] 2)).heap.size = X.heap.size + 2 by simp] at this
    exact this
  rcases (by omega : r = 0 ∨ r = 1 ∨ r = 2) with rfl | rfl | rfl
  · exact ⟨none, [], 0, cellW h2 0 _ rfl _ (Below.refl _ _), OwnI.nil _ _, by simp⟩
  · exact ⟨_, [5], 1, cellW h2 1 _ rfl _ (Below.refl _ _), ⟨rfl, .inr ⟨_, 1, _, rfl, Nat.le_refl _, h0, by simp, by decide, rfl, rfl⟩⟩, by simp⟩
  · exact ⟨_, [1, 2, 3, 65535], 4, cellW h2 2 _ rfl _ (Below.refl _ _), ⟨rfl, .inr ⟨_, 4, _, rfl, by omega, h1, by simp, by decide, rfl, rfl⟩⟩, by simp⟩

set_option maxRecDepth 100000 in
set_option maxHeartbeats 3200000 in
theorem l03Say_D {b B : Nat} {a : Option Addr} {len cap : Nat} {w0 w : World} (h : Dr b B a len cap w0 w) :
    Calls Try.prog 28 #[.pointer (some ⟨b, 0, none⟩)] w (PSay b B a len cap w0) := by
  have HD : Hid _ := h.alloc (.cells #[.int .i64 0, .int .i64 0, .int .i64 0, .int .i64 0, .int .i64 0, .int .i64 0, .int .i64 0, .slice none 0 0, .string ⟨#[]⟩] 27)
  have hbl : b < w.heap.size := h.lt
  have hw0 : w0.heap.size ≤ w.heap.size := h.size
  clear h
  go_enter Try.func28, Try.ntmps28
  go_upto_region 2 with (first
    | (go_at_call 37; refine (l03Stamp_D D3.base).mono ?_; rintro e w4 ⟨s4, rfl, D4⟩)
    | (have _ := D2; go_at_call 34; refine (n_D D2 4 (by omega)).mono ?_; rintro e w3 ⟨r3, rfl, hr3, D3, u3⟩)
    | (have _ := D1; go_at_call 34; refine (n_D D1 4 (by omega)).mono ?_; rintro e w2 ⟨r2, rfl, hr2, D2, u2⟩)
    | (go_at_call 34; refine (n_D HD.out 5 (by omega)).mono ?_; rintro e w1 ⟨r1, rfl, hr1, D1, u1⟩))
  have hzA : w3.heap.size = w.heap.size + 1 := by rw [u3.size, u2.size, u1.size]; simp
  have hzB := D4.size
  have HV : Hid (YV b B a len cap w0 w.heap.size w4.heap.size ⟨1 + (r1 : Int), 1 + (r2 : Int), 1 + (r3 : Int), s4, [], ⟨#[]⟩⟩ (.slice none 0 0) (w4.alloc (.cells #[.int .i64 (1 + (r1 : Int)), .int .i64 (1 + (r2 : Int)), .int .i64 (1 + (r3 : Int)), .int .i64 s4.g, .int .i64 s4.o, .int .i64 s4.b, .int .i64 s4.h, .slice none 0 0, .string ⟨#[]⟩] 27))) := by
    refine ⟨(D3.join D4).alloc _, heap_alloc_new _ _, ?_, OwnI.nil _ _, hbl, hw0, by omega⟩
    rw [heap_alloc_old _ _ (by omega), D4.grb.block _ (by omega) (by omega), u3.block _ (by omega), u2.block _ (by omega), u1.block _ (by omega), heap_alloc_new]
  generalize w4.alloc (.cells #[.int .i64 (1 + (r1 : Int)), .int .i64 (1 + (r2 : Int)), .int .i64 (1 + (r3 : Int)), .int .i64 s4.g, .int .i64 s4.o, .int .i64 s4.b, .int .i64 s4.h, .slice none 0 0, .string ⟨#[]⟩] 27) = X at HV ⊢
  generalize w4.heap.size = V at HV ⊢
  generalize w.heap.size = P at HV ⊢
  have HQ : QSay b B a len cap w0 P V 0 X := QSay.mk HV.out (by simp) (by simp [ByteArray.size])
  clear HV HD hbl hw0 D1 D2 D3 D4 u1 u2 u3 hzA hzB hr1 hr2 hr3
  obtain ⟨y, p, c, HV, hn, hbz⟩ := HQ
  obtain ⟨c0, c1, c2, c3, c4, c5, c6, c7, c8, cf⟩ := HV.out.cellV
  go_upto_block 0 with fail
  have hk1 := HV.out.base
  have HD0 : Hid _ := HV.out.dr
  have hbX : b < X.heap.size := HD0.out.lt
  go_cut [] (fun wx => QSay b B a len cap w0 P V 4 wx)
  case first =>
    by_cases k1 : y.k = 1
    · have t1 : (y.k == 1) = true := by simpa using k1
      clear k1
      go_wp2
      go_meet
      exact QSay.mk (HV.out.setT 0) (by show y.ws.length ≤ 4; omega) hbz
    have t1 : (y.k == 1) = false := by simpa using k1
    by_cases k2 : y.k = 2
    · have t2 : (y.k == 2) = true := by simpa using k2
      clear k1 k2
      have HC : Hid (YV b B a len cap w0 P V y (.slice p y.ws.length c) (((X.alloc (.cells #[.int .i64 5] 2)).alloc (.cells #[.int .i64 1, .int .i64 2, .int .i64 3, .int .i64 65535] 2)).alloc (.cells #[.slice none 0 0, .slice (some ⟨X.heap.size, 0, none⟩) 1 1, .slice (some ⟨X.heap.size + 1, 0, none⟩) 4 4] 25))) := ((HV.out.below (all_alloc _ _)).below (all_alloc _ _)).below (all_alloc _ _)
      go_wp2_with (go_at_call 34; refine (n_D HC.out.dr 3 (by omega)).mono ?_; rintro e9 w9 ⟨r9, rfl, hr9, hD9, ho9⟩; have hs9 : r9 < 3 := (by omega); have HV9 : Hid _ := HC.out.grb hD9 ho9.grb; obtain ⟨pl, l, cl, ck, HO9, hl⟩ := words_at hbX ho9 r9 hs9; obtain ⟨c0, c1, c2, c3, c4, c5, c6, c7, c8, cf⟩ := HV9.out.cellV)
      go_meet
      exact QSay.mk (HV9.out.setW l _ (OwnI.le HO9 hk1)) hl hbz
    have t2 : (y.k == 2) = false := by simpa using k2
    by_cases k5 : y.k = 5
    · have t5 : (y.k == 5) = true := by simpa using k5
      clear k1 k2 k5
      go_wp2_with (first
        | (go_at_call 34; refine (n_D HV.out.dr 5 (by omega)).mono ?_; rintro e9 w9 ⟨r9, rfl, hr9, hD9, ho9⟩; have hs9 : r9 < 5 := (by omega); have HV9 : Hid _ := HV.out.grb hD9 ho9.grb)
        | (go_at_call 61; refine (bytes_D' hD9 (1 + r9) _ (by omega) (by omega)).mono ?_; rintro e8 w8 ⟨s8, rfl, hz8, hD8, hg8⟩; have HV8 : Hid _ := HV9.out.grb hD8 hg8; obtain ⟨c0, c1, c2, c3, c4, c5, c6, c7, c8, cf⟩ := HV8.out.cellV))
      go_meet
      exact QSay.mk (HV8.out.setB s8) (by show y.ws.length ≤ 4; omega) (by show s8.size ≤ 21; omega)
    have t5 : (y.k == 5) = false := by simpa using k5
    clear k1 k2 k5
    go_wp2
    go_meet
    exact QSay.mk HV.out (by omega) hbz
  case rest =>
    clear HV hn hbz c0 c1 c2 c3 c4 c5 c6 c7 c8 cf hk1 HD0 hbX
    obtain ⟨y, p, c, HV, hn, hbz⟩ := hcut
    rename World => X1
    obtain ⟨c0, c1, c2, c3, c4, c5, c6, c7, c8, cf⟩ := HV.out.cellV
    go_upto_if 43 with fail
    go_cut [] (fun wx => QSay b B a len cap w0 P V 4 wx)
    case first =>
      by_cases k1 : y.t = y.f
      · have t1 : (y.t == y.f) = true := by simpa using k1
        clear k1
        go_wp2
        go_meet
        exact QSay.mk (HV.out.setT 8) hn hbz
      · have t1 : (y.t == y.f) = false := by simpa using k1
        clear k1
        go_wp2
        go_meet
        exact QSay.mk HV.out hn hbz
    case rest =>
      clear HV hn hbz c0 c1 c2 c3 c4 c5 c6 c7 c8 cf
      obtain ⟨y, p, c, HV, hn, hbz⟩ := hcut
      rename World => X2
      go_upto_if 46 with (go_at_call 38; refine (one_D HV.out.dr 15 (by omega)).mono ?_; rintro e7 w7 ⟨o7, rfl, hD7, ho7⟩; have HV7 : Hid _ := HV.out.grb hD7 ho7.grb)
      clear HV hD7 ho7
      go_cut [] (fun wx => QSay b B a len cap w0 P V 5 wx)
      case first =>
        cases o7 with
        | false =>
          go_wp2
          go_meet
          exact QSay.mk HV7.out (by omega) hbz
        | true =>
          go_upto_block 1 with (go_at_call 34; refine (n_D HV7.out.dr 4 (by omega)).mono ?_; rintro e8 w8 ⟨r8, rfl, hr8, hD8, ho8⟩; have hs8 : r8 < 4 := (by omega); have HV8 : Hid _ := HV7.out.grb hD8 ho8.grb)
          clear HV7 hD8 ho8 hr8
          obtain ⟨c0, c1, c2, c3, c4, c5, c6, c7, c8, cf⟩ := HV8.out.cellV
          by_cases k0 : r8 = 0
          · subst k0
            have hDD : Dr b B a len cap w0 w8.drew := HV8.out.dr.below (Below.drew (Below.refl _ _))
            have HVD : Hid (YV b B a len cap w0 P V y (.slice p y.ws.length c) w8.drew) := HV8.out.below (Below.drew (Below.refl _ _))
            go_upto_region 15 with fail
            go_region_law (first
              | (have _ := hOA; refine step_append_I rfl (.tmp 55) (.tmp 58) rfl (V + 1) (.slice p y.ws.length c) y.ws rfl hOA.out.row w9.heap.size n9 rfl (cellW (heap_alloc_new w9 (.cells #[.int .i64 n9] 2)) 0 _ rfl _ (Below.refl _ _)) (by omega) hOA.out.base ?_; intro v10 w10 hO10 hgr10; obtain ⟨hB10, HV10⟩ := hOA.out.grown hgr10 hO10; obtain ⟨p10, cap10, rfl⟩ := hO10.shape; have z10 := (hB10.cell (p := ⟨V, 7, none⟩) (by show V < V + 1; omega)).trans u7; have f10 := (hB10.frozen (p := ⟨V, 7, none⟩) (by show V < V + 1; omega)).trans (uf 7))
              | (go_simp; go_at_call 62; refine (edge_D hDD).mono ?_; rintro e9 w9 ⟨n9, rfl, hn9, hD9, hg9⟩; have HV9 : Hid _ := HVD.out.grb hD9 hg9; obtain ⟨_, _, _, _, _, _, _, z7, _, zf⟩ := HV9.out.cellV; have hOA : Hid _ := HV9.out.below (all_alloc w9 (.cells #[.int .i64 n9] 2)); obtain ⟨_, _, _, _, _, _, _, u7, _, uf⟩ := hOA.out.cellV))
            all_goals (go_wp2; go_meet)
            all_goals (have hz : (y.ws ++ [n9]).length = y.ws.length + 1 := by simp
                       have h11 := QSay.mk (n := 5) HV10 (by show (y.ws ++ [n9]).length ≤ 5; omega) hbz
                       rw [hz] at h11
                       exact h11)
          have t0 : ((r8 : Int) == 0) = false := by simp; omega
          by_cases k1 : r8 = 1
          · subst k1
            obtain ⟨i0, hi, hz0, hz1, hz2⟩ := info_parts info5d
            go_wp2_with (first
              | (go_at_call 34; refine (n_D HV8.out.dr 22 (by omega)).mono ?_; rintro e9 w9 ⟨r9, rfl, hr9, hD9, ho9⟩; have hs9 : r9 < 22 := (by omega))
              | (at_make; refine wpList_make_full _ rfl (.tmp 64) (.tmp 64) 22 rfl w9.heap.size 5 i0 (.int .u8 0) 1 Try.underlying22 hi hz0 hz1 .i64 .i64 _ _ r9 rfl rfl (by omega) (by omega) (by rw [hz2]; omega) (by unfold maxLen; omega) (Nat.le_refl _) ?_; intro w10 hown10 hgrow10; have HV10 : Hid _ := (HV8.out.grb hD9 ho9.grb).below (below_none hgrow10); obtain ⟨Z, hZ, hcv⟩ := zeros_conv hown10; clear hown10 hgrow10 c0 c1 c2 c3 c4 c5 c6 c7 c8 cf; obtain ⟨c0, c1, c2, c3, c4, c5, c6, c7, c8, cf⟩ := HV10.out.cellV))
            go_meet
            exact QSay.mk (HV10.out.setB Z) (by show y.ws.length ≤ 5; omega) (by show Z.size ≤ 21; omega)
          have t1 : ((r8 : Int) == 1) = false := by simp; omega
          by_cases k2 : r8 = 2
          · subst k2
            go_wp2_with (go_at_call 34; refine (n_D HV8.out.dr 10 (by omega)).mono ?_; rintro e9 w9 ⟨r9, rfl, hr9, hD9, ho9⟩; have HV9 : Hid _ := HV8.out.grb hD9 ho9.grb; obtain ⟨z0, z1, z2, z3, z4, z5, z6, z7, z8, zf⟩ := HV9.out.cellV)
            go_meet
            exact QSay.mk (HV9.out.setT r9) (by show y.ws.length ≤ 5; omega) hbz
          have t2 : ((r8 : Int) == 2) = false := by simp; omega
          go_wp2_with (go_at_call 34; refine (n_D HV8.out.dr 8 (by omega)).mono ?_; rintro e9 w9 ⟨r9, rfl, hr9, hD9, ho9⟩; have HV9 : Hid _ := HV8.out.grb hD9 ho9.grb; obtain ⟨z0, z1, z2, z3, z4, z5, z6, z7, z8, zf⟩ := HV9.out.cellV)
          go_meet
          exact QSay.mk (HV9.out.setK r9) (by show y.ws.length ≤ 5; omega) hbz
      case rest =>
        clear HV7 hn hbz
        obtain ⟨y, p, c, HV, hn, hbz⟩ := hcut
        rename World => X3
        obtain ⟨c0, c1, c2, c3, c4, c5, c6, c7, c8, cf⟩ := HV.out.cellV
        obtain ⟨k0, k1, k2, k3, k4, k5, k6, k7, k8, kf⟩ := HV.out.cellP
        have q1 := HV.out.bP
        have q2 := HV.out.wP
        have q3 := HV.out.PV
        have q4 : ¬ P = V := by omega
        have q5 : ¬ V = P := by omega
        go_wp2
        exact bodyPost_ret (v := .agg #[.int .i64 y.k, .int .i64 y.f, .int .i64 y.t, .int .i64 y.s.g, .int .i64 y.s.o, .int .i64 y.s.b, .int .i64 y.s.h, .slice p y.ws.length c, .string y.b]) (by simp [results, Try.results28, go_sem, k0, k1, k2, k3, k4, k5, k6, k7, k8, q4, q5]) rfl (PSay.mk HV.out (by omega) (by omega) (by
          repeat (refine Dr.set ?_ (by omega) (by omega) _ _)
          exact HV.out.dr) (fun g h1 h2 => by
          have hne : g ≠ P := by omega
          repeat (rw [Below.heap_setCell _ _ _ _ hne])))
end Go.Proofs.Ythmbfkppjijelaa
