/- THE WALKS of the program's cursor over a text, and of a body that is heard. -/
import Derived.Test.YtiaphaghjklhaaaRead2
import Derived.Test.YtiaphaghjklhaaaMarks
import Derived.WalkKit
import Derived.WalkSpells
import Derived.Outline
import Derived.Below
import Derived.Deep.RegionHeld3
import Derived.Deep.QuietTactic
import Derived.BigQuiet
import Derived.Maps.AppendAt
namespace Go.Proofs.Ytiaphaghjklhaaa
open Go.RowKit
set_option linter.unusedVariables false
set_option linter.unusedSimpArgs false

/-- all blocks but b are as they were; none is new -/
structure Just (b : Nat) (w w' : World) : Prop where
  os : w'.os = w.os
  tape : w'.tape = w.tape
  output : w'.output = w.output
  size : w'.heap.size = w.heap.size
  block : ∀ k, k ≠ b → w'.heap[k]? = w.heap[k]?
theorem Just.below {b B : Nat} {x y : World} (h : Just b x y) (hB : B ≤ b) : Below B x y := ⟨h.os, h.tape, h.output, Nat.le_of_eq h.size.symm, fun k hk => h.block k (by omega)⟩
/-- a cursor in block b over a text -/
def Crs (b : Nat) (t : ByteArray) (k : Nat) (w : World) : Prop := w.heap[b]? = some (.cells #[.string t, .int .i64 k] 103 (0, 0))
set_option maxRecDepth 100000 in
set_option maxHeartbeats 800000 in
theorem next_end (b : Nat) (t : ByteArray) (w : World) (ht : t.size ≤ 8000) (h : Crs b t t.size w) :
    Calls Try.prog 97 #[.pointer (some ⟨b, 0, none⟩)] w fun e w' => e = .returned (.tuple #[.int .u8 0, .bool false]) ∧ Crs b t t.size w' ∧ Just b w w' := by
  have H : Hid _ := h
  have c0 : w.cell? ⟨b, 0, none⟩ = some (.string t) := by simp only [World.cell?, H.out]; rfl
  have c1 : w.cell? ⟨b, 1, none⟩ = some (.int .i64 t.size) := by simp only [World.cell?, H.out]; rfl
  have q : ((t.size : Int) == (t.size : Int)) = true := by simp
  clear h
  go_enter Try.func97, Try.ntmps97
  go_wp2
  go_quiet (fail)
  go_wp2
  go_ret2
  exact ⟨rfl, H.out, ⟨rfl, rfl, rfl, rfl, fun _ _ => rfl⟩⟩
set_option maxRecDepth 100000 in
set_option maxHeartbeats 800000 in
theorem next_more (b : Nat) (t : ByteArray) (k : Nat) (w : World) (ht : t.size ≤ 8000) (hk : k < t.size) (h : Crs b t k w) :
    Calls Try.prog 97 #[.pointer (some ⟨b, 0, none⟩)] w fun e w' => e = .returned (.tuple #[.int .u8 t[k].toNat, .bool true]) ∧ Crs b t (k + 1) w' ∧ Just b w w' := by
  have H : Hid _ := h
  have c0 : w.cell? ⟨b, 0, none⟩ = some (.string t) := by simp only [World.cell?, H.out]; rfl
  have c1 : w.cell? ⟨b, 1, none⟩ = some (.int .i64 k) := by simp only [World.cell?, H.out]; rfl
  have f1 : w.frozen? ⟨b, 1, none⟩ = false := by simp [World.frozen?, H.out]
  have q : ((k : Int) == (t.size : Int)) = false := by simp; omega
  have hix : ∀ W, (Instr.index 9 (.string t) (.int .i64 ((k : Int) + 1 - 1))).run Try.prog W = .ok (.int .u8 (t[k].toNat : Int)) W := by
    intro W
    rw [run_index_string W 9 t .i64 _ Try.underlying9, dif_pos (by omega)]
    congr 5
    omega
  clear h
  go_enter Try.func97, Try.ntmps97
  go_wp2
  go_quiet (fail)
  go_wp2
  go_quiet (fail)
  go_wp2
  go_ret2
  exact ⟨rfl, set_at (cs := [.string t, .int .i64 k]) 1 (.int .i64 ((k : Int) + 1)) H.out, ⟨rfl, rfl, rfl, by simp [World.setCell], fun j hj => Below.heap_setCell _ _ _ _ hj⟩⟩

theorem info9h : (Try.prog.info? 9).map (fun i => (i.zero, i.size, i.bytes)) = some (some (.string ⟨#[]⟩), 1, 16) := by kernel_rfl
/-- what is heard of what came between two flags -/
def heardS (l : List UInt8) : List ByteArray := if 3 ≤ l.length ∧ checkL (l.take (l.length - 2)) = l.drop (l.length - 2) then [bytesOf (l.take (l.length - 2))] else []
theorem own_shapeH {w : World} {base : Nat} {e : TypeId} {size : Nat} {v : Value} {n : Nat} {xs : List Value} (h : w.ownsRow base e size v n xs) : ∃ a cap, v = .slice a n cap := by
  obtain ⟨_, ⟨rfl, rfl⟩ | ⟨g, cap, cur, rfl, _⟩⟩ := h
  · exact ⟨_, _, rfl⟩
  · exact ⟨_, _, rfl⟩
theorem grownB {w a b : World} {row : Option Nat} (h : Below w.heap.size w a) (k : a.grownBy b row) : w.grownBy b row :=
  ⟨k.os.trans h.os, k.tape.trans h.tape, k.output.trans h.output, Nat.le_trans h.size k.size, fun i hi hr => (k.block i (Nat.lt_of_lt_of_le hi h.size) hr).trans (h.block i hi)⟩
theorem grownR {w a : World} {row : Option Nat} (h : Below w.heap.size w a) : w.grownBy a row := ⟨h.os, h.tape, h.output, h.size, fun i hi _ => h.block i hi⟩
set_option maxRecDepth 100000 in
set_option maxHeartbeats 800000 in
theorem addHeard_any (base b2 : Nat) (v bv : Value) (ss : List ByteArray) (l : List UInt8) (w : World) (hl : l.length ≤ 1000) (hsl : ss.length ≤ 10000) (hbase : base ≤ w.heap.size) (hv : OwnS w base v ss) (hb : OwnM w b2 5 bv l) :
    Calls Try.prog 98 #[v, bv] w fun e w' => ∃ v', e = .returned v' ∧ OwnS w' base v' (ss ++ heardS l) ∧ w.grownBy w' v.ownBlock := by
  obtain ⟨i9, hi9, hz90, hz91, hz92⟩ := info_parts info9h
  have hcv := OwnM.conv (P := Try.prog) 22 9 Try.underlying22 Try.underlying5 Try.underlying9 hb
  have HC : Hid _ := fun w => checkedBody_any (bytesOf l) w (by rw [bytesOf_size]; omega)
  have hci := check_iff (bytesOf l)
  rw [bytesOf_list] at hci
  have hhd := headB_list (bytesOf l)
  rw [bytesOf_list] at hhd
  have hbo : (⟨l.toArray⟩ : ByteArray) = bytesOf l := rfl
  obtain ⟨p, cap, hps⟩ := hv.shape
  obtain ⟨pb, capb, hpb⟩ := hb.shape
  subst hps hpb
  rw [hbo] at hcv
  by_cases h : 3 ≤ l.length ∧ checkL (l.take (l.length - 2)) = l.drop (l.length - 2)
  · have hcv2 : chkV (bytesOf l) = .tuple #[.string (headB (bytesOf l)), .bool true] := by unfold chkV; rw [if_pos ⟨by rw [bytesOf_size]; exact h.1, hci.2 h.2⟩]
    have hH : heardS l = [headB (bytesOf l)] := by unfold heardS; rw [if_pos h, ← hhd, bytesOf_data]
    rw [hcv2] at HC
    rw [hH]
    generalize headB (bytesOf l) = T at HC ⊢
    generalize bytesOf l = B at hcv HC
    clear hci hhd hbo hcv2 hH h
    have HV : Hid (OwnS w base (.slice p ss.length cap) ss) := hv
    clear hv
    go_enter Try.func98, Try.ntmps98
    go_wp2_with (first | (go_at_call 63; refine (HC.out _).mono ?_; rintro e w1 ⟨rfl, hb1⟩; have hown : w1.ownsRow base 9 1 (.slice p ss.length cap) ss.length (ss.map Value.string) := HV.out.below hb1; have hz1 := hb1.size) | (at_builtin; refine wpList_append_own _ rfl (.tmp 16) (.tmp 18) 38 rfl base 9 i9 (.string ⟨#[]⟩) 1 16 Try.underlying38 hi9 hz90 hz91 hz92 rfl (by decide) _ _ _ rfl (hown.alloc _) ⟨w1.heap.size, 0, none⟩ 1 1 [_] rfl rfl (cells_new _ _ _) (by intro x hx; simp at hx; subst hx; rfl) (by unfold maxLen; omega) (by omega) (by simp; omega) ?_; intro v' w3 hown' hgrow _))
    go_ret
    refine ⟨_, rfl, ?_, grownB (hb1.alloc hz1 _) hgrow⟩
    unfold OwnS
    rw [List.length_append, List.map_append]
    exact hown'
  · have hcv2 : chkV (bytesOf l) = .tuple #[.string ByteArray.empty, .bool false] := by unfold chkV; rw [if_neg (by rw [bytesOf_size]; exact fun q => h ⟨q.1, hci.1 q.2⟩)]
    have hH : heardS l = [] := by unfold heardS; rw [if_neg h]
    rw [hcv2] at HC
    rw [hH, List.append_nil]
    generalize bytesOf l = B at hcv HC
    clear hci hhd hbo hcv2 hH h
    have HV : Hid (OwnS w base (.slice p ss.length cap) ss) := hv
    clear hv
    go_enter Try.func98, Try.ntmps98
    go_wp2_with (go_at_call 63; refine (HC.out _).mono ?_; rintro e w1 ⟨rfl, hb1⟩)
    go_ret
    exact ⟨_, rfl, HV.out.below hb1, grownR hb1⟩
end Go.Proofs.Ytiaphaghjklhaaa
