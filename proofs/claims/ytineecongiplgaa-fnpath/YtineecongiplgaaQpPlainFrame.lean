/- THE DRAWS that FnPath takes: hops, paths, a path and a bridge, bytes. -/
import Derived.Test.YtineecongiplgaaQpDrawP1
import Derived.Test.YtineecongiplgaaQpBitsR
import Derived.Test.YtineecongiplgaaProg
import Derived.Test.YtineecongiplgaaQpLaws
import Derived.WalkKit
import Derived.Laws.BitsAllLaws
import Derived.WalkSpells
import Derived.Outline
import Derived.Below
namespace Go.Proofs.Ytineecongiplgaa
open Go.RowKit
set_option linter.unusedVariables false
set_option linter.unusedSimpArgs false

theorem source_DP (B : Nat) (a : Option Addr) (len cap : Nat) (w : World) (hr : Rb B w a len) (hB : B ≤ w.heap.size) (b : Nat) (hb : w.heap.size = b) :
    Calls Try.prog 39 #[.slice a len cap] w fun e w' => e = .returned (.pointer (some ⟨b, 0, none⟩)) ∧ Dr b B a len cap w' w' ∧ Below b w w' := by
  subst hb; exact source_D B a len cap w hr hB
set_option maxRecDepth 100000 in
set_option maxHeartbeats 1600000 in
theorem drawPathNew_any (B : Nat) (a : Option Addr) (len cap : Nat) (w : World) (hr : Rb B w a len) (hB : B ≤ w.heap.size) :
    Calls Try.prog 7 #[.slice a len cap] w fun e w' => ∃ (v : Value) (zs : List Int), e = .returned v ∧ OwnI w' w.heap.size v zs ∧ zs.length ≤ 6 ∧ Below w.heap.size w w' := by
  go_enter Try.func7, Try.ntmps7
  go_wp2_with (first
    | (go_at_call 39; refine (source_D B a len cap _ hr hB).mono ?_; rintro e w1 ⟨rfl, hD1, hb1⟩)
    | (go_at_call 40; refine (l08Hops_D hD1).mono ?_; rintro e w2 ⟨v, zs, rfl, hO, hn, hD2⟩; obtain ⟨pv, cv, rfl⟩ := hO.shape))
  go_ret
  exact ⟨_, zs, rfl, OwnI.leT hO hb1.size, hn, hD2.end hb1⟩
/-- a path was drawn -/
def PDraw (w : World) (x : Ending) (w' : World) : Prop := ∃ (t : Tb) (p1 p2 : Option Addr) (c1 c2 : Nat), x = .returned (.agg #[.slice p1 t.cs.length c1, .slice p2 t.rs.length c2]) ∧ OwnT w' w.heap.size (.slice p1 t.cs.length c1) (.slice p2 t.rs.length c2) t ∧ (t.cs.length ≤ 100 ∧ t.rs.length ≤ 100) ∧ Below w.heap.size w w'
set_option maxRecDepth 100000 in
set_option maxHeartbeats 1600000 in
theorem drawPathHome_any (B : Nat) (a : Option Addr) (len cap : Nat) (w : World) (hr : Rb B w a len) (hB : B ≤ w.heap.size) :
    Calls Try.prog 10 #[.slice a len cap] w (PDraw w) := by
  have HR : Hid _ := Rb_blwP hr ((Below.refl B w).alloc hB (.cells #[.slice none 0 0, .slice none 0 0] 26))
  have hB1 : B ≤ (w.alloc (.cells #[.slice none 0 0, .slice none 0 0] 26)).heap.size := by simp; omega
  have hP0 : Hid _ := heap_alloc_new w (.cells #[.slice none 0 0, .slice none 0 0] 26)
  clear hr
  go_enter Try.func10, Try.ntmps10
  go_wp2_with (first
    | (go_at_call 39; refine (source_DP B a len cap _ HR.out hB1 (w.heap.size + 1) (by simp)).mono ?_; rintro e w1 ⟨rfl, hD1, hb1⟩; have hP1 : Hid (w1.heap[w.heap.size]? = some (.cells #[.slice none 0 0, .slice none 0 0] 26 (0, 0))) := (hb1.block _ (by omega)).trans hP0.out)
    | (go_at_call 43; refine (l08Path_D hD1).mono ?_; rintro x w2 ⟨t, p1, p2, c1, c2, g, rfl, hO, hg, hn, hD2⟩; have hP2 : Hid _ := (hD2.grb.block w.heap.size (Array.getElem?_eq_some_iff.1 hP1.out).1 (by omega)).trans hP1.out; have z0 := cellW hP2.out 0 _ rfl w2 (Below.refl _ _); have z1 := cellW hP2.out 1 _ rfl w2 (Below.refl _ _); have f0 := frozenW hP2.out 0 w2 (Below.refl _ _); have f1 := frozenW hP2.out 1 w2 (Below.refl _ _)))
  have hbA : Below w.heap.size w w1 := (((Below.refl w.heap.size w).alloc (Nat.le_refl _) _).trans (hb1.mono (by omega)))
  have hbB : Below w.heap.size w w2 := hbA.trans (hD2.grb.below (by omega) hbA.size)
  have hlt1 : w.heap.size < w1.heap.size := (Array.getElem?_eq_some_iff.1 hP1.out).1
  exact bodyPost_ret (v := .agg #[.slice p1 t.cs.length c1, .slice p2 t.rs.length c2]) (by simp [results, Try.results10, go_sem, z0, z1]; try rfl) rfl ⟨t, p1, p2, c1, c2, rfl, OwnT.leT (OwnT.farT (OwnT.farT hO (by simp only; omega) _) (by simp only; omega) _) (by omega), hn, (hbB.setCell (Nat.le_refl _) _).setCell (Nat.le_refl _) _⟩
set_option maxRecDepth 100000 in
set_option maxHeartbeats 1600000 in
theorem drawPathBytes_any (B : Nat) (a : Option Addr) (len cap : Nat) (w : World) (hr : Rb B w a len) (hB : B ≤ w.heap.size) :
    Calls Try.prog 11 #[.slice a len cap] w (PDraw w) := by
  have HR : Hid _ := Rb_blwP hr ((Below.refl B w).alloc hB (.cells #[.slice none 0 0, .slice none 0 0] 26))
  have hB1 : B ≤ (w.alloc (.cells #[.slice none 0 0, .slice none 0 0] 26)).heap.size := by simp; omega
  have hP0 : Hid _ := heap_alloc_new w (.cells #[.slice none 0 0, .slice none 0 0] 26)
  clear hr
  go_enter Try.func11, Try.ntmps11
  go_wp2_with (first
    | (go_at_call 39; refine (source_DP B a len cap _ HR.out hB1 (w.heap.size + 1) (by simp)).mono ?_; rintro e w1 ⟨rfl, hD1, hb1⟩; have hP1 : Hid (w1.heap[w.heap.size]? = some (.cells #[.slice none 0 0, .slice none 0 0] 26 (0, 0))) := (hb1.block _ (by omega)).trans hP0.out)
    | (go_at_call 43; refine (l08Path_D hD1).mono ?_; rintro x w2 ⟨t, p1, p2, c1, c2, g, rfl, hO, hg, hn, hD2⟩; have hP2 : Hid _ := (hD2.grb.block w.heap.size (Array.getElem?_eq_some_iff.1 hP1.out).1 (by omega)).trans hP1.out; have z0 := cellW hP2.out 0 _ rfl w2 (Below.refl _ _); have z1 := cellW hP2.out 1 _ rfl w2 (Below.refl _ _); have f0 := frozenW hP2.out 0 w2 (Below.refl _ _); have f1 := frozenW hP2.out 1 w2 (Below.refl _ _)))
  have hbA : Below w.heap.size w w1 := (((Below.refl w.heap.size w).alloc (Nat.le_refl _) _).trans (hb1.mono (by omega)))
  have hbB : Below w.heap.size w w2 := hbA.trans (hD2.grb.below (by omega) hbA.size)
  have hlt1 : w.heap.size < w1.heap.size := (Array.getElem?_eq_some_iff.1 hP1.out).1
  exact bodyPost_ret (v := .agg #[.slice p1 t.cs.length c1, .slice p2 t.rs.length c2]) (by simp [results, Try.results11, go_sem, z0, z1]; try rfl) rfl ⟨t, p1, p2, c1, c2, rfl, OwnT.leT (OwnT.farT (OwnT.farT hO (by simp only; omega) _) (by simp only; omega) _) (by omega), hn, (hbB.setCell (Nat.le_refl _) _).setCell (Nat.le_refl _) _⟩
end Go.Proofs.Ytineecongiplgaa
/- PLAIN: the check over numbers as the walks write them; nothing of the program. -/
namespace Go.Proofs.Ytineecongiplgaa

theorem ofInt_i64 (a : Nat) (ha : a < 9223372036854775808) : (BitVec.ofInt 64 (a : Int)).toNat = a := by
  rw [BitVec.ofInt_natCast, BitVec.toNat_ofNat]; exact Nat.mod_eq_of_lt (by omega)
theorem i64_xor_nat (a b : Nat) (ha : a < 65536) (hb : b < 65536) : bits .xor .i64 (a : Int) (b : Int) = ((a ^^^ b : Nat) : Int) := by
  have hx : a ^^^ b < 2 ^ 16 := Nat.xor_lt_two_pow (by omega) (by omega)
  show IntKind.i64.wrap ((BitVec.ofInt 64 (a : Int) ^^^ BitVec.ofInt 64 (b : Int)).toNat : Int) = _
  rw [BitVec.toNat_xor, ofInt_i64 a (by omega), ofInt_i64 b (by omega)]
  simp [IntKind.wrap, IntKind.bits, IntKind.signed]
  omega
theorem fcsSteps_zero (x : Nat) : fcsSteps 0 x = x := rfl
theorem odd_i (x : Nat) : (((x : Int) % 2) == 1) = decide (x % 2 = 1) := by
  rw [Bool.eq_iff_iff]; simp; omega
theorem fcs_start (x b : Nat) (hx : x < 65536) (hb : b < 256) : bits .xor .i64 (x : Int) (b : Int) = ((fcsSteps 0 (x ^^^ b) : Nat) : Int) := i64_xor_nat x b hx (by omega)
theorem fcs_yes {x : Nat} (hx : x < 65536) (h : (((x : Int) % 2) == 1) = true) : bits .xor .i64 ((x : Int) / 2) 33800 = ((fcsStep x : Nat) : Int) := by
  rw [odd_i] at h
  have e : (x : Int) / 2 = ((x / 2 : Nat) : Int) := by omega
  unfold fcsStep
  rw [if_pos (by simpa using h), e]
  exact i64_xor_nat (x / 2) 33800 (by omega) (by decide)
theorem fcs_no {x : Nat} (h : (((x : Int) % 2) == 1) = false) : (x : Int) / 2 = ((fcsStep x : Nat) : Int) := by
  rw [odd_i] at h
  unfold fcsStep
  rw [if_neg (by simpa using h)]
  omega
theorem fcs16_start (x b : Nat) (hx : x < 65536) (hb : b < 256) : bits .xor .u16 (x : Int) (b : Int) = ((fcsSteps 0 (x ^^^ b) : Nat) : Int) := u16_xor_nat x b hx (by omega)
theorem fcs16_yes {x : Nat} (hx : x < 65536) (h : (((x : Int) % 2) == 1) = true) : bits .xor .u16 ((x : Int) / 2) 33800 = ((fcsStep x : Nat) : Int) := by
  rw [odd_i] at h
  have e : (x : Int) / 2 = ((x / 2 : Nat) : Int) := by omega
  unfold fcsStep
  rw [if_pos (by simpa using h), e]
  exact u16_xor_nat (x / 2) 33800 (by omega) (by decide)
/-- the check of a text, where it is short enough -/
def fcsV (s : ByteArray) : Nat := if 8000 < s.size then 0 else fcsL s.data.toList
def checkB (s : ByteArray) : ByteArray := ⟨(checkL s.data.toList).toArray⟩
theorem checkB_size (s : ByteArray) : (checkB s).size = 2 := rfl
end Go.Proofs.Ytineecongiplgaa
/- THE WALKS of the check's functions: what each answers at every argument. -/
namespace Go.Proofs.Ytineecongiplgaa
open Go.RowKit

end Go.Proofs.Ytineecongiplgaa
/- PLAIN: two ways to take escapes back answer the same; nothing of the program. -/
namespace Go.Proofs.Ytineecongiplgaa

def needE (c : UInt8) : Bool := c == 126 || c == 125
theorem needE_iff (c : UInt8) : needE c = true ↔ c = 126 ∨ c = 125 := by simp [needE]
/-- escapes taken back, where they may have been made -/
def unT : List UInt8 → Option (List UInt8)
  | [] => some []
  | [c] => if c = 126 ∨ c = 125 then none else some [c]
  | c :: d :: l => if c = 126 then none else if c = 125 then (if needE (d ^^^ 32) then (unT l).map ((d ^^^ 32) :: ·) else none) else (unT (d :: l)).map (c :: ·)
theorem unT_flag (l : List UInt8) : unT (126 :: l) = none := by
  cases l with
  | nil => rfl
  | cons d l => rw [unT, if_pos rfl]
theorem unT_end : unT [125] = none := rfl
theorem unT_turn (d : UInt8) (l : List UInt8) (h : needE (d ^^^ 32) = true) : unT (125 :: d :: l) = (unT l).map ((d ^^^ 32) :: ·) := by
  rw [unT, if_neg (by decide), if_pos rfl, if_pos h]
theorem unT_no (d : UInt8) (l : List UInt8) (h : needE (d ^^^ 32) = false) : unT (125 :: d :: l) = none := by
  rw [unT, if_neg (by decide), if_pos rfl, if_neg (by simp [h])]
theorem unT_plain (c : UInt8) (l : List UInt8) (h1 : c ≠ 126) (h2 : c ≠ 125) : unT (c :: l) = (unT l).map (c :: ·) := by
  cases l with
  | nil => show (if _ then _ else _) = _; rw [if_neg (by simp [h1, h2])]; rfl
  | cons d l => rw [unT, if_neg h1, if_neg h2]
theorem unT_esc (p : List UInt8) : unT (escL p) = some p := by
  induction p with
  | nil => rfl
  | cons c l ih =>
    rw [escL_cons]
    unfold esc1
    split
    · rename_i h
      rw [List.cons_append, List.cons_append, List.nil_append, unT_turn _ _ (by rw [turn_twice]; exact (needE_iff c).2 h), ih, turn_twice]; rfl
    · rename_i h
      rw [List.cons_append, List.nil_append, unT_plain c _ (fun e => h (.inl e)) (fun e => h (.inr e)), ih]; rfl
theorem esc_unT : ∀ (l p : List UInt8), unT l = some p → escL p = l := by
  intro l
  induction l using unT.induct with
  | case1 => intro p h; rw [unT] at h; cases h; rfl
  | case2 c h0 => intro p h; rw [unT, if_pos h0] at h; cases h
  | case3 c h0 => intro p h; rw [unT, if_neg h0] at h; cases h; simp [escL, esc1, h0]
  | case4 d l => intro p h; rw [unT, if_pos rfl] at h; cases h
  | case5 d l h2 h1 ih =>
    intro p h
    rw [unT, if_neg h1, if_pos rfl, if_pos h2] at h
    cases hq : unT l with
    | none => rw [hq] at h; cases h
    | some q =>
      rw [hq] at h
      cases h
      rw [escL_cons, ih q hq]
      unfold esc1
      rw [if_pos ((needE_iff _).1 h2), turn_twice]; rfl
  | case6 d l h2 h1 => intro p h; rw [unT, if_neg h1, if_pos rfl, if_neg h2] at h; cases h
  | case7 c d l h1 h2 ih =>
    intro p h
    rw [unT, if_neg h1, if_neg h2] at h
    cases hq : unT (d :: l) with
    | none => rw [hq] at h; cases h
    | some q =>
      rw [hq] at h
      cases h
      rw [escL_cons, ih q hq]
      unfold esc1
      rw [if_neg (by simp [h1, h2])]; rfl
/-- a text that opens and ends with a flag -/
theorem flags_inner (t : List UInt8) (h1 : t.head? = some 126) (h2 : t.getLast? = some 126) (h3 : 2 ≤ t.length) : t = 126 :: (innerL t ++ [126]) := by
  cases t with
  | nil => simp at h1
  | cons c l =>
    simp at h1
    subst h1
    have hl : l ≠ [] := by intro e; rw [e] at h3; simp at h3
    have h4 : l.getLast? = some 126 := by rw [← h2]; exact (List.getLast?_cons_of_ne_nil hl).symm
    congr 1
    have e : innerL (126 :: l) = l.dropLast := by
      unfold innerL; rw [List.dropLast_eq_take]; simp
    rw [e]
    have h5 : l.getLast hl = 126 := by rw [List.getLast?_eq_some_getLast hl] at h4; exact Option.some.inj h4
    have := List.dropLast_concat_getLast hl
    rw [h5] at this
    exact this.symm
theorem frame_flags (p : List UInt8) : (frameL p).head? = some 126 ∧ (frameL p).getLast? = some 126 ∧ 2 ≤ (frameL p).length := by
  refine ⟨rfl, ?_, by rw [frameL_length]; omega⟩
  show (126 :: (escL p ++ [126])).getLast? = _
  rw [← List.cons_append, List.getLast?_append]
  rfl
/-- what the program asks of a frame -/
def readP (t : List UInt8) : List UInt8 × Int :=
  if 8000 < t.length then ([], 2)
  else if t.length < 2 ∨ t.head? ≠ some 126 ∨ t.getLast? ≠ some 126 then ([], 3)
  else match unT (innerL t) with
    | none => ([], 3)
    | some p => if p.length < 3 ∨ 62 < p.length then ([], 3) else if checkL (p.take (p.length - 2)) ≠ p.drop (p.length - 2) then ([], 5) else (p.take (p.length - 2), 0)
theorem readP_eq (t : List UInt8) : readP t = readL t := by
  unfold readP readL
  split
  · rfl
  · by_cases h : t.length < 2 ∨ t.head? ≠ some 126 ∨ t.getLast? ≠ some 126
    · rw [if_pos h, if_pos]
      right; right
      intro e
      have hf := frame_flags (unescL (innerL t))
      rw [e] at hf
      rcases h with h | h | h
      · omega
      · exact h hf.1
      · exact h hf.2.1
    · rw [if_neg h]
      simp only [not_or, Nat.not_lt, ne_eq, Decidable.not_not] at h
      have hi := flags_inner t h.2.1 h.2.2 h.1
      cases hq : unT (innerL t) with
      | none =>
        rw [if_pos]
        right; right
        intro e
        have e2 : innerL t = escL (unescL (innerL t)) := by rw [← inner_frame, e]
        rw [e2, unT_esc] at hq
        cases hq
      | some p =>
        have he := esc_unT _ _ hq
        have e2 : unescL (innerL t) = p := by rw [← he, unesc_esc]
        have e3 : frameL p = t := by unfold frameL; rw [he]; exact hi.symm
        rw [e2, e3]
        simp
end Go.Proofs.Ytineecongiplgaa
/- PLAIN: frames as texts; nothing of the program. -/
namespace Go.Proofs.Ytineecongiplgaa

theorem xor32 (c : UInt8) : bits .xor .u8 (c.toNat : Int) 32 = ((c ^^^ 32).toNat : Int) := by
  rw [UInt8.toNat_xor]
  exact u8_xor_nat c.toNat 32 c.toNat_lt (by decide)
theorem eq_u8 (c : UInt8) (k : Nat) (hk : k < 256) : ((c.toNat : Int) == (k : Int)) = decide (c = UInt8.ofNat k) := by
  rw [Bool.eq_iff_iff]
  simp only [beq_iff_eq, decide_eq_true_eq]
  constructor
  · intro h
    apply UInt8.toNat_inj.1
    rw [UInt8.toNat_ofNat']
    omega
  · intro h
    rw [h, UInt8.toNat_ofNat']
    omega
theorem is126 (c : UInt8) : ((c.toNat : Int) == 126) = decide (c = 126) := eq_u8 c 126 (by decide)
theorem is125 (c : UInt8) : ((c.toNat : Int) == 125) = decide (c = 125) := eq_u8 c 125 (by decide)
def bytesOf (l : List UInt8) : ByteArray := ⟨l.toArray⟩
theorem bytesOf_size (l : List UInt8) : (bytesOf l).size = l.length := by simp [bytesOf, ByteArray.size]
theorem bytesOf_list (l : List UInt8) : (bytesOf l).data.toList = l := by simp [bytesOf]
theorem bytesOf_data (s : ByteArray) : bytesOf s.data.toList = s := by
  apply ByteArray.ext; simp [bytesOf]
theorem bytesOf_append (l m : List UInt8) : bytesOf l ++ bytesOf m = bytesOf (l ++ m) := by
  apply ByteArray.ext; simp [bytesOf, ByteArray.data_append]
theorem append_bytesOf (s : ByteArray) (m : List UInt8) : s ++ bytesOf m = bytesOf (s.data.toList ++ m) := by
  rw [← bytesOf_append, bytesOf_data]
theorem list_append (s t : ByteArray) : (s ++ t).data.toList = s.data.toList ++ t.data.toList := by simp [ByteArray.data_append]
theorem list_length (s : ByteArray) : s.data.toList.length = s.size := by rw [Array.length_toList]; rfl
def frameB (s : ByteArray) : ByteArray := bytesOf (frameT s.data.toList)
theorem frameB_in (s : ByteArray) (h1 : 1 ≤ s.size) (h2 : s.size ≤ 60) : frameB s = bytesOf (frameL (s.data.toList ++ checkL s.data.toList)) := by
  unfold frameB frameT
  rw [if_neg (by rw [list_length]; omega)]
theorem frameB_out (s : ByteArray) (h : s.size < 1 ∨ 60 < s.size) : frameB s = ByteArray.empty := by
  unfold frameB frameT
  rw [if_pos (by rw [list_length]; omega)]
  rfl
theorem frameB_size (s : ByteArray) : (frameB s).size ≤ 126 := by unfold frameB; rw [bytesOf_size]; exact frameT_length _
theorem frame_parts (s : ByteArray) : bytesOf [126] ++ bytesOf (escL s.data.toList) ++ bytesOf (escL (checkL s.data.toList)) ++ bytesOf [126] = bytesOf (frameL (s.data.toList ++ checkL s.data.toList)) := by
  rw [bytesOf_append, bytesOf_append, bytesOf_append]
  unfold frameL
  rw [escL_append]
  simp
end Go.Proofs.Ytineecongiplgaa
