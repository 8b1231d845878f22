/- WHAT THE LAW FnFrame keeps in memory, and the plain facts that it leans on. -/
import Derived.Test.YtiaphaghjklhaaaFrameL
import Derived.Test.YtiaphaghjklhaaaRowB
import Derived.Test.YtiaphaghjklhaaaLwAt
import Derived.Test.YtiaphaghjklhaaaRead4
import Derived.Below
namespace Go.Proofs.Ytiaphaghjklhaaa
open Go.RowKit
set_option linter.unusedVariables false

theorem frame_of_read {u : ByteArray} (h : (readL u.data.toList).2 = 0) : frameB (bytesOf (readL u.data.toList).1) = u := by
  unfold frameB
  rw [bytesOf_list, frame_read (x := (readL u.data.toList).1) (t := u.data.toList) (by rw [← h]), bytesOf_data]
theorem read_of_frame {b : ByteArray} (h1 : 1 ≤ b.size) (h2 : b.size ≤ 60) : rdV (frameB b) = textOutF b 0 0 := by
  unfold rdV frameB
  rw [bytesOf_list, read_frame b.data.toList (by rw [list_length]; exact h1) (by rw [list_length]; exact h2), bytesOf_data]
/-- three boxes: a text that is told, a wire, what it told -/
structure FB (w : World) (X V Y : Nat) (cX cV cY : Array Value) (Z : World) : Prop where
  boxX : Z.heap[X]? = some (.cells cX 27 (0, 0))
  boxV : Z.heap[V]? = some (.cells cV 35 (0, 0))
  boxY : Z.heap[Y]? = some (.cells cY 40 (0, 0))
  bel : Below w.heap.size w Z
theorem FB.below {w : World} {X V Y : Nat} {cX cV cY : Array Value} {Z Z' : World} (h : FB w X V Y cX cV cY Z) (hb : Below Z.heap.size Z Z') : FB w X V Y cX cV cY Z' :=
  ⟨(hb.block _ (Array.getElem?_eq_some_iff.1 h.boxX).1).trans h.boxX, (hb.block _ (Array.getElem?_eq_some_iff.1 h.boxV).1).trans h.boxV, (hb.block _ (Array.getElem?_eq_some_iff.1 h.boxY).1).trans h.boxY, keepB h.bel (Nat.le_refl _) hb⟩
theorem FB.cellX {w : World} {X V Y : Nat} {c0 c1 c2 : Value} {cV cY : Array Value} {Z : World} (h : FB w X V Y #[c0, c1, c2] cV cY Z) : Z.cell? ⟨X, 0, none⟩ = some c0 ∧ Z.cell? ⟨X, 1, none⟩ = some c1 ∧ Z.cell? ⟨X, 2, none⟩ = some c2 :=
  let k := cells_at h.boxX
  ⟨k.1 0 _ rfl, k.1 1 _ rfl, k.1 2 _ rfl⟩
theorem FB.cellV {w : World} {X V Y : Nat} {c0 c1 c2 c3 : Value} {cX cY : Array Value} {Z : World} (h : FB w X V Y cX #[c0, c1, c2, c3] cY Z) : Z.cell? ⟨V, 0, none⟩ = some c0 ∧ Z.cell? ⟨V, 1, none⟩ = some c1 ∧ Z.cell? ⟨V, 2, none⟩ = some c2 ∧ Z.cell? ⟨V, 3, none⟩ = some c3 :=
  let k := cells_at h.boxV
  ⟨k.1 0 _ rfl, k.1 1 _ rfl, k.1 2 _ rfl, k.1 3 _ rfl⟩
theorem FB.cellY {w : World} {X V Y : Nat} {c0 c1 c2 c3 c4 c5 : Value} {cX cV : Array Value} {Z : World} (h : FB w X V Y cX cV #[c0, c1, c2, c3, c4, c5] Z) : Z.cell? ⟨Y, 0, none⟩ = some c0 ∧ Z.cell? ⟨Y, 1, none⟩ = some c1 ∧ Z.cell? ⟨Y, 2, none⟩ = some c2 ∧ Z.cell? ⟨Y, 3, none⟩ = some c3 ∧ Z.cell? ⟨Y, 4, none⟩ = some c4 ∧ Z.cell? ⟨Y, 5, none⟩ = some c5 :=
  let k := cells_at h.boxY
  ⟨k.1 0 _ rfl, k.1 1 _ rfl, k.1 2 _ rfl, k.1 3 _ rfl, k.1 4 _ rfl, k.1 5 _ rfl⟩
theorem bl_alloc (w : World) (o : Obj) : Below w.heap.size w (w.alloc o) := (Below.refl _ _).alloc (Nat.le_refl _) _
theorem blk1 {Y Z : World} {G : Nat} {o : Obj} (h : Y.heap[G]? = some o) (hb : Below Y.heap.size Y Z) : Z.heap[G]? = some o := (hb.block G (Array.getElem?_eq_some_iff.1 h).1).trans h
/-- what is told of a wire is right, where nothing is wrong -/
theorem feedR_right {x : Wr} {t : ByteArray} (h : (feedR x t).2.2 = 0) : (feedR x t).1.right = true := by
  unfold feedR at h ⊢
  split at h
  · exact absurd h (by simp)
  · split at h
    · exact absurd h (by simp)
    · rename_i h1 h2
      rw [if_neg h1, if_neg h2]
      exact Wr.feed_right _ x (by simpa using h2)
theorem feedR_lenF (x : Wr) (t : ByteArray) : ((feedR x t).2.1.map bytesOf).length ≤ 10000 := by
  unfold feedR
  split
  · simp
  · split
    · simp
    · simp only [List.length_map]
      have := feeds_length t.data.toList x
      rw [list_length] at this
      omega
theorem slice_toL (t : ByteArray) (r : Nat) (h : r ≤ t.size) : ∃ P : ByteArray, P.data.toList = t.data.toList.take r ∧ P.size = r ∧ ∀ W : World, (Instr.slice 9 (.string t) none (some (.int .i64 r)) none).run Try.prog W = .ok (.string P) W := by
  refine ⟨t.extract 0 r, by rw [Lib.extract_data, List.drop_zero, Nat.sub_zero], by rw [ByteArray.size_extract]; omega, fun W => ?_⟩
  rw [run_slice_string_to_if W 9 t .i64 r Try.underlying9, if_pos (by omega)]
  rfl
theorem slice_fromL (t : ByteArray) (r : Nat) (h : r ≤ t.size) : ∃ P : ByteArray, P.data.toList = t.data.toList.drop r ∧ P.size = t.size - r ∧ ∀ W : World, (Instr.slice 9 (.string t) (some (.int .i64 r)) none none).run Try.prog W = .ok (.string P) W := by
  refine ⟨t.extract r t.size, by rw [Lib.extract_data, List.take_of_length_le (by rw [List.length_drop, list_length]; exact Nat.le_refl _)], by rw [ByteArray.size_extract]; omega, fun W => ?_⟩
  rw [run_slice_string_from_if W 9 t .i64 r Try.underlying9, if_pos (by omega)]
  rfl
/-- an answer in a box, its row, nothing else turned -/
def Box (v7 : World) (i e d : Bool) (b : ByteArray) (ss : List ByteArray) (s : Value) (wx : World) : Prop :=
  ∃ (g base : Nat) (p : Option Addr) (c : Nat), s = .pointer (some ⟨g, 0, none⟩) ∧ Hid (wx.heap[g]? = some (.cells #[.bool i, .bool e, .bool d, .string b, .slice p ss.length c, .int .i64 0] 40 (0, 0))) ∧ Hid (OwnS wx base (.slice p ss.length c) ss) ∧ Below v7.heap.size v7 wx
theorem Box.late {v7 wr w2 : World} {i e d : Bool} {b : ByteArray} {ss : List ByteArray} {p : Option Addr} {c base : Nat} (hw : Below v7.heap.size v7 wr) (hb : Below wr.drew.heap.size wr.drew w2) (ho : OwnS w2 base (.slice p ss.length c) ss) : Box v7 i e d b ss (.pointer (some ⟨w2.heap.size, 0, none⟩)) (w2.alloc (.cells #[.bool i, .bool e, .bool d, .string b, .slice p ss.length c, .int .i64 0] 40)) :=
  have hw2 : Below wr.heap.size wr w2 := ⟨hb.os, hb.tape, hb.output, hb.size, hb.block⟩
  ⟨_, base, p, c, rfl, heap_alloc_new _ _, ho.below (bl_alloc _ _), keepB (keepB hw (Nat.le_refl _) hw2) (Nat.le_refl _) (bl_alloc _ _)⟩
theorem Box.early {v7 wr w2 : World} {i e d : Bool} {b : ByteArray} {ss : List ByteArray} {p : Option Addr} {c : Nat} (hw : Below v7.heap.size v7 wr)
    (hb : Below (wr.alloc (.cells #[.bool false, .bool false, .bool false, .string ⟨#[]⟩, .slice none 0 0, .int .i64 0] 40)).drew.heap.size (wr.alloc (.cells #[.bool false, .bool false, .bool false, .string ⟨#[]⟩, .slice none 0 0, .int .i64 0] 40)).drew w2)
    (ho : OwnS w2 (wr.alloc (.cells #[.bool false, .bool false, .bool false, .string ⟨#[]⟩, .slice none 0 0, .int .i64 0] 40)).drew.heap.size (.slice p ss.length c) ss) :
    Box v7 i e d b ss (.pointer (some ⟨wr.heap.size, 0, none⟩)) ((((((w2.setCell ⟨wr.heap.size, 0, none⟩ (.bool i)).setCell ⟨wr.heap.size, 1, none⟩ (.bool e)).setCell ⟨wr.heap.size, 2, none⟩ (.bool d)).setCell ⟨wr.heap.size, 3, none⟩ (.string b)).setCell ⟨wr.heap.size, 4, none⟩ (.slice p ss.length c)).setCell ⟨wr.heap.size, 5, none⟩ (.int .i64 0)) := by
  have h0 : w2.heap[wr.heap.size]? = some (.cells [.bool false, .bool false, .bool false, .string ⟨#[]⟩, .slice none 0 0, .int .i64 0].toArray 40 (0, 0)) := (hb.block wr.heap.size (by simp)).trans (heap_alloc_new wr _)
  have hw2 : Below wr.heap.size wr w2 := ((Below.refl wr.heap.size wr).alloc (Nat.le_refl _) _).trans (Below.mono ⟨hb.os, hb.tape, hb.output, hb.size, hb.block⟩ (by simp))
  refine ⟨wr.heap.size, _, p, c, rfl, set_at 5 _ (set_at 4 _ (set_at 3 _ (set_at 2 _ (set_at 1 _ (set_at 0 _ h0))))), ho.keptH fun g h1 h2 => ?_, ?_⟩
  · have hne : g ≠ wr.heap.size := by simp at h1; omega
    rw [Below.heap_setCell _ _ _ _ hne, Below.heap_setCell _ _ _ _ hne, Below.heap_setCell _ _ _ _ hne, Below.heap_setCell _ _ _ _ hne, Below.heap_setCell _ _ _ _ hne, Below.heap_setCell _ _ _ _ hne]
  · have hx := hw.size
    have := keepB hw (Nat.le_refl _) hw2
    exact (((((this.setCell hx _).setCell hx _).setCell hx _).setCell hx _).setCell hx _).setCell hx _
theorem feedR_in {x : Wr} {t : ByteArray} (hr : x.right = true) (ht : t.size ≤ 8000) : feedR x t = (x.feed t.data.toList, x.feeds t.data.toList, 0) := by
  unfold feedR
  rw [if_neg (by omega), if_neg (by rw [hr]; simp)]
theorem readL_len (t : List UInt8) : (readL t).1.length ≤ t.length := by
  have h1 := unescL_length (innerL t)
  rw [innerL_length] at h1
  unfold readL
  split
  · simp
  · split
    · simp
    · split
      · simp
      · rw [List.length_take]; omega
theorem feedR_ok {x : Wr} {t : ByteArray} {y : Wr} {fs : List (List UInt8)} (h : feedR x t = (y, fs, 0)) : x.right = true ∧ y = x.feed t.data.toList ∧ fs = x.feeds t.data.toList := by
  unfold feedR at h
  split at h
  · exact absurd (congrArg (fun z => z.2.2) h) (by simp)
  · split at h
    · exact absurd (congrArg (fun z => z.2.2) h) (by simp)
    · rename_i h1 h2
      exact ⟨by simpa using h2, (congrArg (fun z => z.1) h).symm, (congrArg (fun z => z.2.1) h).symm⟩
end Go.Proofs.Ytiaphaghjklhaaa
