/- THE DRAWS' STATE in one word: a source over bytes, and nothing of what was there turned but the source. -/
import Derived.Test.YtineecongiplgaaProg
import Derived.Test.YtineecongiplgaaQpDraw2
import Derived.Test.YtineecongiplgaaQpLaws
import Derived.WalkKit
import Derived.Below
import Derived.WalkSpells
import Derived.Outline
import Derived.Deep.RegionHeld3
import Derived.Deep.QuietTactic
import Derived.BigQuiet
import Derived.OpenShut
namespace Go.Proofs.Ytineecongiplgaa
open Go.RowKit
set_option linter.unusedVariables false

structure Dr (b B : Nat) (a : Option Addr) (len cap : Nat) (w0 w : World) : Prop where
  src : Src b a len cap w
  rb : Rb B w a len
  grb : Grb b w0 w
  lt : b < w.heap.size
  le : B ≤ b
theorem Dr.only {b B : Nat} {a : Option Addr} {len cap : Nat} {w0 w w' : World} (h : Dr b B a len cap w0 w) (hs : Src b a len cap w') (ho : Only b w w') : Dr b B a len cap w0 w' :=
  ⟨hs, h.rb.grb ho.grb h.le (by have := h.le; have := h.lt; omega), h.grb.trans ho.grb, by rw [ho.size]; exact h.lt, h.le⟩
theorem Dr.grown {b B : Nat} {a : Option Addr} {len cap : Nat} {w0 w w' : World} (h : Dr b B a len cap w0 w) (hs : Src b a len cap w') (hg : Grb b w w') : Dr b B a len cap w0 w' :=
  ⟨hs, h.rb.grb hg h.le (by have := h.le; have := h.lt; omega), h.grb.trans hg, Nat.lt_of_lt_of_le h.lt hg.size, h.le⟩
theorem Dr.below {b B : Nat} {a : Option Addr} {len cap : Nat} {w0 w w' : World} (h : Dr b B a len cap w0 w) (hb : Below w.heap.size w w') : Dr b B a len cap w0 w' :=
  h.grown (h.src.of_block (hb.block b h.lt)) (grb_of_below hb)
theorem Dr.alloc {b B : Nat} {a : Option Addr} {len cap : Nat} {w0 w : World} (h : Dr b B a len cap w0 w) (o : Obj) : Dr b B a len cap w0 (w.alloc o) := h.below ((Below.refl _ _).alloc (Nat.le_refl _) _)
theorem Dr.size {b B : Nat} {a : Option Addr} {len cap : Nat} {w0 w : World} (h : Dr b B a len cap w0 w) : w0.heap.size ≤ w.heap.size := h.grb.size
theorem n_D {b B : Nat} {a : Option Addr} {len cap : Nat} {w0 w : World} (h : Dr b B a len cap w0 w) (most : Int) (h2 : most ≤ 1099511627776) :
    Calls Try.prog 45 #[.pointer (some ⟨b, 0, none⟩), .int .i64 most] w fun e w' => ∃ r : Nat, e = .returned (.int .i64 r) ∧ ((r : Int) < most ∨ r = 0) ∧ Dr b B a len cap w0 w' ∧ Only b w w' :=
  (n_any b B a len cap most w h2 h.src h.rb h.le).mono fun e w' ⟨r, h1, h3, h4, h5⟩ => ⟨r, h1, h3, h.only h4 h5, h5⟩
theorem one_D {b B : Nat} {a : Option Addr} {len cap : Nat} {w0 w : World} (h : Dr b B a len cap w0 w) (most : Int) (h2 : most ≤ 1099511627776) :
    Calls Try.prog 44 #[.pointer (some ⟨b, 0, none⟩), .int .i64 most] w fun e w' => ∃ r : Bool, e = .returned (.bool r) ∧ Dr b B a len cap w0 w' ∧ Only b w w' :=
  (one_any b B a len cap most w h2 h.src h.rb h.le).mono fun e w' ⟨r, h1, h4, h5⟩ => ⟨r, h1, h.only h4 h5, h5⟩
/-- a source that was just made -/
theorem source_D (B : Nat) (a : Option Addr) (len cap : Nat) (w : World) (hr : Rb B w a len) (hB : B ≤ w.heap.size) :
    Calls Try.prog 39 #[.slice a len cap] w fun e w' => e = .returned (.pointer (some ⟨w.heap.size, 0, none⟩)) ∧ Dr w.heap.size B a len cap w' w' ∧ Below w.heap.size w w' :=
  (source_any B a len cap w hr hB).mono fun e w' ⟨h1, h2, h3, h4⟩ => ⟨h1, ⟨h2, hr.grb (grb_of_below (b := w.heap.size) h3) hB hB, Grb.refl _ _, h4, hB⟩, h3⟩
theorem Dr.end {B : Nat} {a : Option Addr} {len cap : Nat} {W w0 w : World} (h : Dr W.heap.size B a len cap w0 w) (hb : Below W.heap.size W w0) : Below W.heap.size W w := hb.trans (h.grb.below (Nat.le_refl _) hb.size)
end Go.Proofs.Ytineecongiplgaa
/- WHAT WAS THERE stays: two small laws. -/
namespace Go.Proofs.Ytineecongiplgaa
open Go.RowKit
theorem keepB {B : Nat} {W a b : World} (h : Below B W a) (hB : B ≤ W.heap.size) (k : Below a.heap.size a b) : Below B W b := h.trans (k.mono (Nat.le_trans hB h.size))
theorem bcellF {B : Nat} {W w1 : World} (hb : Below B W w1) : (∀ b o, b < B → w1.cell? ⟨b, o, none⟩ = W.cell? ⟨b, o, none⟩) ∧ (∀ b o, b < B → w1.frozen? ⟨b, o, none⟩ = W.frozen? ⟨b, o, none⟩) :=
  ⟨fun b o h => hb.cell (p := ⟨b, o, none⟩) h, fun b o h => hb.frozen (p := ⟨b, o, none⟩) h⟩
end Go.Proofs.Ytineecongiplgaa
/- OWN ROWS of numbers, and the law's own questions of them: copied, the same, marked, still marked. -/
namespace Go.Proofs.Ytineecongiplgaa
open Go.RowKit
set_option linter.unusedVariables false
set_option linter.unusedSimpArgs false

/-- a list of numbers that a call made for itself -/
def OwnI (w : World) (base : Nat) (v : Value) (zs : List Int) : Prop := w.ownsRow base 2 1 v zs.length (zs.map (Value.int .i64))
theorem OwnI.shape {w : World} {base : Nat} {v : Value} {zs : List Int} (h : OwnI w base v zs) : ∃ a cap, v = .slice a zs.length cap := by
  obtain ⟨_, ⟨rfl, h0⟩ | ⟨g, cap, cur, rfl, _⟩⟩ := h
  · rw [h0]; exact ⟨_, _, rfl⟩
  · exact ⟨_, _, rfl⟩
theorem OwnI.cell {w : World} {base : Nat} {a : Option Addr} {n cap : Nat} {zs : List Int} (h : OwnI w base (.slice a n cap) zs) (k : Nat) (hk : k < zs.length) : ∃ g, a = some ⟨g, 0, none⟩ ∧ base ≤ g ∧ g < w.heap.size ∧ w.cell? ⟨g, k, none⟩ = some (.int .i64 zs[k]) ∧ w.frozen? ⟨g, k, none⟩ = false := by
  obtain ⟨_, ⟨h1, h0⟩ | ⟨g, cap, cur, h1, hb, hg, _, _, _, ht⟩⟩ := h
  · omega
  · cases h1
    have hg' := (Array.getElem?_eq_some_iff.1 hg).1
    have e : cur[k]? = some (.int .i64 zs[k]) := by
      have : (cur.toList.take (zs.length * 1))[k]? = some (.int .i64 zs[k]) := by rw [ht, List.getElem?_map, List.getElem?_eq_getElem hk]; rfl
      rw [List.getElem?_take_of_lt (by omega)] at this
      simpa using this
    exact ⟨g, rfl, hb, hg', by simp [World.cell?, hg, e], by simp [World.frozen?, hg]⟩
theorem OwnI.below {w w' : World} {base : Nat} {v : Value} {zs : List Int} (h : OwnI w base v zs) (hb : Below w.heap.size w w') : OwnI w' base v zs := by
  refine ⟨h.1, h.2.imp id ?_⟩
  rintro ⟨g, cap, cur, e1, e2, e3, e4⟩
  exact ⟨g, cap, cur, e1, e2, (hb.block g (Array.getElem?_eq_some_iff.1 e3).1).trans e3, e4⟩
theorem OwnI.set {w : World} {base g n cap : Nat} {zs : List Int} (h : OwnI w base (.slice (some ⟨g, 0, none⟩) n cap) zs) (j : Nat) (hj : j < zs.length) (m : Int) : OwnI (w.setCell ⟨g, j, none⟩ (.int .i64 m)) base (.slice (some ⟨g, 0, none⟩) n cap) (zs.set j m) := by
  obtain ⟨h0, ⟨h1, _⟩ | ⟨g, cap, cur, h1, hb, hg, h2, h3, h4, ht⟩⟩ := h
  · cases h1
  · cases h1
    refine ⟨by simp, .inr ⟨g, cap, cur.setIfInBounds j (.int .i64 m), by rw [List.length_set], hb, ?_, by rw [List.length_set]; exact h2, h3, by simpa using h4, ?_⟩⟩
    · rw [setCell_eq_setRow w g j cur _ (0, 0) _ hg, setRow_heap w g cur _ _ _ hg]
    · rw [List.length_set, Array.toList_setIfInBounds, List.take_set, ht, List.map_set]
theorem OwnI.nil (w : World) (base : Nat) : OwnI w base (.slice none 0 0) [] := ⟨by simp, .inl ⟨rfl, rfl⟩⟩
/-- a list of numbers that can be read -/
def RowI (w : World) (v : Value) (zs : List Int) : Prop :=
  ∃ (p : Option Addr) (c : Nat), v = .slice p zs.length c ∧ ∀ k (h : k < zs.length), ∃ g, p = some ⟨g, 0, none⟩ ∧ g < w.heap.size ∧ w.cell? ⟨g, k, none⟩ = some (.int .i64 zs[k])
theorem OwnI.row {w : World} {base : Nat} {v : Value} {zs : List Int} (h : OwnI w base v zs) : RowI w v zs := by
  obtain ⟨p, c, rfl⟩ := h.shape
  refine ⟨p, c, rfl, fun k hk => ?_⟩
  obtain ⟨g, e, _, h1, h2, _⟩ := h.cell k hk
  exact ⟨g, e, h1, h2⟩
theorem RowI.below {w w' : World} {v : Value} {zs : List Int} (h : RowI w v zs) (hb : Below w.heap.size w w') : RowI w' v zs := by
  obtain ⟨p, c, e, h⟩ := h
  refine ⟨p, c, e, fun k hk => ?_⟩
  obtain ⟨g, e1, h1, h2⟩ := h k hk
  exact ⟨g, e1, Nat.lt_of_lt_of_le h1 hb.size, (hb.cell (p := ⟨g, k, none⟩) h1).trans h2⟩

set_option maxRecDepth 100000 in
set_option maxHeartbeats 800000 in
theorem eqInt64S_same (v1 v2 : Value) (zs : List Int) (w : World) (hl : zs.length ≤ 10000000) (h1 : RowI w v1 zs) (h2 : RowI w v2 zs) :
    Calls Try.prog 96 #[v1, v2] w fun e w' => e = .returned (.bool true) ∧ Below w.heap.size w w' := by
  obtain ⟨p1, c1, rfl, h1⟩ := h1
  obtain ⟨p2, c2, rfl, h2⟩ := h2
  have e0 : ((zs.length : Int) != (zs.length : Int)) = false := by simp
  have H1 : Hid _ := h1
  have H2 : Hid _ := h2
  clear h1 h2
  go_enter Try.func96, Try.ntmps96
  go_wp2
  go_loopw [5] (fun i wr => ∃ k : Nat, k ≤ zs.length ∧ i = .int .i64 k ∧ Below w.heap.size w wr) (fun i _ => zs.length - (intOf i).toNat)
  case atStart => exact ⟨0, Nat.zero_le _, rfl, Below.refl _ _⟩
  case round =>
    obtain ⟨k, hk, rfl, hbel⟩ := hrel
    by_cases hlt : k < zs.length
    · obtain ⟨g1, rfl, l1, q1⟩ := H1.out k hlt
      obtain ⟨g2, rfl, l2, q2⟩ := H2.out k hlt
      have q1' := (hbel.cell (p := ⟨g1, k, none⟩) l1).trans q1
      have q2' := (hbel.cell (p := ⟨g2, k, none⟩) l2).trans q2
      clear q1 q2
      have es : (zs[k] != zs[k]) = false := by simp
      go_wp2
      go_quiet (fail)
      go_wp2
      go_roundw
      case rel => exact ⟨k + 1, by omega, by go_num, hbel.trans ((Below.refl _ wr).trans ⟨rfl, rfl, rfl, Nat.le_refl _, fun _ _ => rfl⟩)⟩
      case measure => simp [intOf]; omega
    · go_wp2
      go_ret
      exact ⟨rfl, hbel⟩
def countI (n : Nat) : List Int := (List.range n).map fun (i : Nat) => 1 + (i : Int)
theorem countI_length (n : Nat) : (countI n).length = n := by simp [countI]
theorem countI_at (n k : Nat) (h : k < (countI n).length) : (countI n)[k] = 1 + (k : Int) := by simp [countI]
theorem countI_succ (n : Nat) : countI (n + 1) = countI n ++ [1 + (n : Int)] := by simp [countI, List.range_succ]
theorem set_midI {l m : List Int} {c : Int} (h : m ≠ []) : (l ++ m).set l.length c = (l ++ [c]) ++ m.drop 1 := by
  cases m with
  | nil => exact absurd rfl h
  | cons a m => simp
theorem count_step (zs : List Int) (j : Nat) (h : j < zs.length) : (countI j ++ zs.drop j).set j (1 + (j : Int)) = countI (j + 1) ++ zs.drop (j + 1) := by
  have := set_midI (l := countI j) (m := zs.drop j) (c := 1 + (j : Int)) (by intro e; have := congrArg List.length e; simp at this; omega)
  rw [countI_length] at this
  rw [this, countI_succ, List.drop_drop]
theorem grown_belowI {w a b : World} {row : Option Nat} (h : w.grownBy a row) (k : Below a.heap.size a b) : w.grownBy b row :=
  ⟨k.os.trans h.os, k.tape.trans h.tape, k.output.trans h.output, Nat.le_trans h.size k.size, fun i hi hr => (k.block i (Nat.lt_of_lt_of_le hi h.size)).trans (h.block i hi hr)⟩
theorem grown_setI {w a : World} {g : Nat} (h : w.grownBy a (some g)) (o : Nat) (v : Value) : w.grownBy (a.setCell ⟨g, o, none⟩ v) (some g) :=
  ⟨h.os, h.tape, h.output, by simpa [World.setCell] using h.size, fun i hi hr => (Below.heap_setCell _ _ _ _ (fun e => hr (by rw [e]))).trans (h.block i hi hr)⟩
theorem grown_reflI (w : World) (row : Option Nat) : w.grownBy w row := ⟨rfl, rfl, rfl, Nat.le_refl _, fun _ _ _ => rfl⟩
end Go.Proofs.Ytineecongiplgaa
/- WHAT A SLICE OF NUMBERS THAT CAME IN gives: copied by the law, its length counted. -/
namespace Go.Proofs.Ytineecongiplgaa
open Go.RowKit
set_option linter.unusedVariables false
set_option linter.unusedSimpArgs false

/-- A slice of integers that came in: nil, or a row of 'cap' cells that hold 'zs'. -/
def IsRowN (k : IntKind) (w : World) (a : Option Addr) (len cap : Nat) (zs : List Int) : Prop :=
  (a = none ∧ len = 0 ∧ cap = 0 ∧ zs = []) ∨
  ∃ x, a = some x ∧ len ≤ cap ∧ cap ≤ maxLen ∧ zs.length = cap ∧ (∀ i, i < zs.length → w.cell? (x.add i) = some (.int k (zs.getD i 0))) ∧ ∀ n ∈ zs, (Lit.int k n).wf = true
/-- numbers that came in, to be read -/
def InI (w : World) (a : Option Addr) (zs : List Int) : Prop :=
  zs.length ≤ 9223372036854775807 ∧ ∀ i (h : i < zs.length), ∃ g o, a = some ⟨g, o, none⟩ ∧ g < w.heap.size ∧ w.cell? ⟨g, o + i, none⟩ = some (.int .i64 zs[i])
theorem IsRowN.ini {w : World} {a : Option Addr} {len cap : Nat} {zs : List Int} (h : IsRowN .i64 w a len cap zs) : ∃ ys : List Int, len = ys.length ∧ InI w a ys ∧ ∀ n ∈ ys, (Lit.int .i64 n).wf = true := by
  rcases h with ⟨_, h, _⟩ | ⟨x, rfl, h1, h2, h3, h4, h5⟩
  · exact ⟨[], h, ⟨by simp, fun i hi => by simp at hi⟩, fun n hn => by simp at hn⟩
  · unfold maxLen at h2
    refine ⟨zs.take len, by rw [List.length_take]; omega, ⟨by rw [List.length_take]; omega, fun i hi => ?_⟩, fun n hn => h5 n (List.mem_of_mem_take hn)⟩
    rw [List.length_take] at hi
    have hc0 := h4 0 (by omega)
    obtain ⟨g, o, sp⟩ := x
    have hsp : sp = none := by simpa [Addr.add] using World.cell?_spot hc0
    subst hsp
    have hg : g < w.heap.size := by
      rcases Nat.lt_or_ge g w.heap.size with h | h
      · exact h
      · simp [World.cell?, Addr.add, Array.getElem?_eq_none h] at hc0
    refine ⟨g, o, rfl, hg, ?_⟩
    have := h4 i (by omega)
    rw [show (⟨g, o, none⟩ : Addr).add i = ⟨g, o + i, none⟩ by unfold Addr.add; split <;> simp_all] at this
    rw [this, List.getD_eq_getElem?_getD, List.getElem?_eq_getElem (by omega), List.getElem_take]
    rfl
theorem InI.below {w w' : World} {a : Option Addr} {zs : List Int} (h : InI w a zs) (hb : Below w.heap.size w w') : InI w' a zs := by
  refine ⟨h.1, fun i hi => ?_⟩
  obtain ⟨g, o, e, h1, h2⟩ := h.2 i hi
  exact ⟨g, o, e, Nat.lt_of_lt_of_le h1 hb.size, (hb.cell (p := ⟨g, o + i, none⟩) h1).trans h2⟩
theorem info64 : (Try.prog.info? 2).map (fun i => (i.zero, i.size, i.bytes)) = some (some (.int .i64 0), 1, 8) := by kernel_rfl
theorem zeros_list (n : Nat) : (madeCells (Value.int .i64 0).cells (n * 1)).toList = (List.replicate n (0 : Int)).map (Value.int .i64) := by
  rw [show (Value.int .i64 0).cells = #[Value.int .i64 0] from rfl, toList_madeCells_one, List.map_replicate, Nat.mul_one]
theorem copy_step (zs : List Int) (j : Nat) (h : j < zs.length) : (zs.take j ++ List.replicate (zs.length - j) (0 : Int)).set j zs[j] = zs.take (j + 1) ++ List.replicate (zs.length - (j + 1)) 0 := by
  have := set_midI (l := zs.take j) (m := List.replicate (zs.length - j) (0 : Int)) (c := zs[j]) (by intro e; have := congrArg List.length e; simp at this; omega)
  rw [List.length_take, Nat.min_eq_left (by omega)] at this
  rw [this, List.take_succ_eq_append_getElem h, List.drop_replicate, Nat.sub_sub]
set_option maxRecDepth 100000 in
set_option maxHeartbeats 800000 in
theorem toInt64S_any (a : Option Addr) (c : Nat) (zs : List Int) (w : World) (hl : zs.length ≤ 1048576) (hr : InI w a zs) :
    Calls Try.prog 94 #[.slice a zs.length c] w fun e w' => ∃ v, e = .returned v ∧ OwnI w' w.heap.size v zs ∧ Below w.heap.size w w' := by
  obtain ⟨i0, hi, hz0, hz1, hz2⟩ := info_parts info64
  have HR : Hid _ := hr.2
  clear hr
  go_enter Try.func94, Try.ntmps94
  go_wp2_with (at_make; refine wpList_make_full _ rfl (.tmp 6) (.tmp 6) 23 rfl w.heap.size 2 i0 (.int .i64 0) 1 Try.underlying23 hi hz0 hz1 .i64 .i64 _ _ zs.length rfl rfl (by omega) (by omega) (by rw [hz2]; omega) (by unfold maxLen; omega) (Nat.le_refl _) ?_; intro w1 hown1 hgrow1; have hB1 := (Below.refl w.heap.size w).grown hgrow1 (Nat.le_refl _) (fun k e => by cases e); rw [zeros_list] at hown1)
  have HO1 : Hid (OwnI w1 w.heap.size (.slice (some ⟨w.heap.size, 0, none⟩) zs.length zs.length) (zs.take 0 ++ List.replicate (zs.length - 0) 0)) := by
    show OwnI _ _ _ _
    rw [List.take_zero, List.nil_append, Nat.sub_zero]
    unfold OwnI
    rw [List.length_replicate]
    exact hown1
  clear hown1 hgrow1
  go_loopw [4] (fun i wr => ∃ j : Nat, j ≤ zs.length ∧ i = .int .i64 j ∧ Hid (OwnI wr w.heap.size (.slice (some ⟨w.heap.size, 0, none⟩) zs.length zs.length) (zs.take j ++ List.replicate (zs.length - j) 0)) ∧ Below w.heap.size w wr) (fun i _ => zs.length - (intOf i).toNat)
  case atStart => exact ⟨0, Nat.zero_le _, rfl, HO1.out, hB1⟩
  case round =>
    obtain ⟨j, hj, rfl, HW, hbel⟩ := hrel
    have hlen : (zs.take j ++ List.replicate (zs.length - j) (0 : Int)).length = zs.length := by rw [List.length_append, List.length_take, List.length_replicate]; omega
    by_cases hlt : j < zs.length
    · have hk : j < (zs.take j ++ List.replicate (zs.length - j) (0 : Int)).length := by rw [hlen]; exact hlt
      obtain ⟨g, hpg, _, hgl, hq, hf⟩ := HW.out.cell j hk
      cases hpg
      obtain ⟨ga, oa, rfl, la, qa⟩ := HR.out j hlt
      have qa' := (hbel.cell (p := ⟨ga, oa + j, none⟩) la).trans qa
      clear qa
      have HST : Hid _ := copy_step zs j hlt
      generalize hzj : zs[j] = z at qa' HST
      have h1 := HW.out.set j hk z
      generalize (zs.take j ++ List.replicate (zs.length - j) (0 : Int))[j] = old at hq
      go_wp2
      go_roundw
      case rel => exact ⟨j + 1, by omega, by go_num, (show OwnI _ _ _ _ by rw [← HST.out]; exact h1), hbel.setCell (Nat.le_refl _) _⟩
      case measure => simp [intOf]; omega
    · obtain rfl : j = zs.length := by omega
      go_wp2
      go_ret
      refine ⟨_, rfl, ?_, hbel⟩
      have := HW.out
      rwa [List.take_length, Nat.sub_self, List.replicate_zero, List.append_nil] at this
theorem szInt64S_any (a : Option Addr) (n c : Nat) (w : World) (hn : n ≤ 9223372036854775807) :
    Calls Try.prog 91 #[.slice a n c, .int .i64 1048576] w fun x w' => x = .returned (.int .i64 (if n ≤ 1048576 then 1048576 - (n : Int) else -1)) ∧ w = w' := by
  by_cases h : n ≤ 1048576
  · have h1 : ¬ (1048576 : Int) - (n : Int) < 0 := by omega
    rw [if_pos h]
    go_enter Try.func91, Try.ntmps91
    go_wp2
    go_ret
    exact ⟨rfl, rfl⟩
  · have h1 : (1048576 : Int) - (n : Int) < 0 := by omega
    rw [if_neg h]
    go_enter Try.func91, Try.ntmps91
    go_wp2
    go_ret
    exact ⟨rfl, rfl⟩
end Go.Proofs.Ytineecongiplgaa
/- LISTS OF NUMBERS MARKED AND HELD from any number on, counted against any room: for things that hold two lists. -/
namespace Go.Proofs.Ytineecongiplgaa
open Go.RowKit
set_option linter.unusedVariables false
set_option linter.unusedSimpArgs false

def countK (s : Int) (n : Nat) : List Int := (List.range n).map fun (i : Nat) => s + (i : Int)
theorem countK_length (s : Int) (n : Nat) : (countK s n).length = n := by simp [countK]
theorem countK_at (s : Int) (n k : Nat) (h : k < (countK s n).length) : (countK s n)[k] = s + (k : Int) := by simp [countK]
theorem countK_succ (s : Int) (n : Nat) : countK s (n + 1) = countK s n ++ [s + (n : Int)] := by simp [countK, List.range_succ]
theorem countK_step (s : Int) (zs : List Int) (j : Nat) (h : j < zs.length) : (countK s j ++ zs.drop j).set j (s + (j : Int)) = countK s (j + 1) ++ zs.drop (j + 1) := by
  have := set_midI (l := countK s j) (m := zs.drop j) (c := s + (j : Int)) (by intro e; have := congrArg List.length e; simp at this; omega)
  rw [countK_length] at this
  rw [this, countK_succ, List.drop_drop]
theorem szInt64S_from (s : Int) (hs : 0 ≤ s ∧ s ≤ 1048576) (a : Option Addr) (n c : Nat) (w : World) (hn : n ≤ 9223372036854775807) :
    Calls Try.prog 91 #[.slice a n c, .int .i64 s] w fun x w' => x = .returned (.int .i64 (if (n : Int) ≤ s then s - (n : Int) else -1)) ∧ w = w' := by
  by_cases h : (n : Int) ≤ s
  · have h1 : ¬ s - (n : Int) < 0 := by omega
    rw [if_pos h]
    go_enter Try.func91, Try.ntmps91
    go_wp2
    go_ret
    exact ⟨rfl, rfl⟩
  · have h1 : s - (n : Int) < 0 := by omega
    rw [if_neg h]
    go_enter Try.func91, Try.ntmps91
    go_wp2
    go_ret
    exact ⟨rfl, rfl⟩
end Go.Proofs.Ytineecongiplgaa
/- OWN ROWS of numbers: where they lie, and what is kept while one of them grows. -/
namespace Go.Proofs.Ytineecongiplgaa
open Go.RowKit
theorem OwnI.lt {w : World} {base : Nat} {v : Value} {zs : List Int} (h : OwnI w base v zs) : ∀ k, v.ownBlock = some k → base ≤ k ∧ k < w.heap.size := World.ownsRow.lt h
theorem below_grown {w a b : World} {row : Option Nat} (h : Below w.heap.size w a) (g : a.grownBy b row) (hk : ∀ k, row = some k → w.heap.size ≤ k) : Below w.heap.size w b := h.grown g h.size hk
end Go.Proofs.Ytineecongiplgaa
/- STAMPS over numbers: right, and below. -/
namespace Go.Proofs.Ytineecongiplgaa
set_option linter.unusedVariables false
set_option linter.unusedSimpArgs false

def timeB (n : Int) : Bool := decide (0 ≤ n) && decide (n ≤ 1000000)
def addrB (n : Int) : Bool := decide (1 ≤ n) && decide (n ≤ 8)
def wordB (n : Int) : Bool := decide (0 ≤ n) && decide (n ≤ 65535)
/-- a stamp -/
structure St where
  g : Int
  o : Int
  b : Int
  h : Int
def St.none (s : St) : Bool := s.g == 0 && (s.o == 0 && (s.b == 0 && s.h == 0))
def St.same (s t : St) : Bool := s.g == t.g && (s.o == t.o && (s.b == t.b && s.h == t.h))
def St.right (s : St) : Bool := if s.o = 0 then s.none else addrB s.o && (timeB s.g && (timeB s.b && timeB s.h))
def St.lt (s t : St) : Bool :=
  if s.g ≠ t.g then decide (s.g < t.g) else if s.o ≠ t.o then decide (s.o < t.o) else if s.b ≠ t.b then decide (s.b < t.b) else decide (s.h < t.h)
def St.less (s t : St) : Bool := s.right && (t.right && s.lt t)
theorem St.same_iff (s t : St) : s.same t = true ↔ s = t := by
  cases s; cases t
  simp [St.same]
theorem St.lt_same {s t : St} (h : s.same t = true) : s.lt t = false := by
  rw [St.same_iff] at h
  subst h
  simp [St.lt]
theorem St.none_o {s : St} (hr : s.right = true) : s.none = decide (s.o = 0) := by
  unfold St.right at hr
  by_cases h : s.o = 0
  · rw [if_pos h] at hr; simp [hr, h]
  · simp [St.none, h]
/-- of two right ones that are not the same just one is below the other -/
theorem St.less_one {s t : St} (h1 : s.right = true) (h2 : t.right = true) (h : s.same t = false) : s.less t = !t.less s := by
  unfold St.less
  rw [h1, h2]
  simp only [Bool.true_and]
  unfold St.lt
  unfold St.same at h
  simp only [Bool.and_eq_false_iff, beq_eq_false_iff_ne, ne_eq] at h
  by_cases e1 : s.g = t.g
  · by_cases e2 : s.o = t.o
    · by_cases e3 : s.b = t.b
      · simp [e1, e2, e3] at h ⊢
        by_cases e4 : s.h < t.h <;> simp [e4] <;> omega
      · have e3' : ¬ t.b = s.b := fun e => e3 e.symm
        simp [e1, e2, e3, e3']
        by_cases e4 : s.b < t.b <;> simp [e4] <;> omega
    · have e2' : ¬ t.o = s.o := fun e => e2 e.symm
      simp [e1, e2, e2']
      by_cases e4 : s.o < t.o <;> simp [e4] <;> omega
  · have e1' : ¬ t.g = s.g := fun e => e1 e.symm
    simp [e1, e1']
    by_cases e4 : s.g < t.g <;> simp [e4] <;> omega
theorem St.lt_iff (s t : St) : s.lt t = true ↔ s.g < t.g ∨ (s.g = t.g ∧ (s.o < t.o ∨ (s.o = t.o ∧ (s.b < t.b ∨ (s.b = t.b ∧ s.h < t.h))))) := by
  unfold St.lt
  by_cases e1 : s.g = t.g
  · by_cases e2 : s.o = t.o
    · by_cases e3 : s.b = t.b
      · simp [e1, e2, e3]
      · simp [e1, e2, e3]
    · simp [e1, e2]
  · simp [e1]
/-- what is below what is below is below -/
theorem St.less_trans {s t u : St} (h1 : s.less t = true) (h2 : t.less u = true) : s.less u = true := by
  unfold St.less at h1 h2 ⊢
  simp only [Bool.and_eq_true] at h1 h2 ⊢
  refine ⟨h1.1, h2.2.1, ?_⟩
  have a := (St.lt_iff s t).1 h1.2.2
  have b := (St.lt_iff t u).1 h2.2.2
  rw [St.lt_iff]
  omega
end Go.Proofs.Ytineecongiplgaa
