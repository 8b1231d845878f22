/- A PATH READ from its bytes, over lists: as the program reads, rune by rune, and as the model does. -/
import Derived.Test.YtineecongiplgaaQpPaB
import Derived.Laws.RangeAny
namespace Go.Proofs.Ytineecongiplgaa
open Go.RowKit
set_option linter.unusedVariables false
set_option linter.unusedSimpArgs false

def stepR (t : Tb) (pos r : Nat) : Tb := if r = 0 then t else if pos < 5 then ⟨t.cs ++ [(r : Int)], t.rs⟩ else ⟨t.cs, t.rs ++ [(r : Int)]⟩
def rdP (s : ByteArray) : Nat → Nat → Tb → Tb
  | 0, _, t => t
  | b + 1, pos, t => if pos < s.size then rdP s b (pos + (Utf8.decode s pos).2) (stepR t pos (Utf8.decode s pos).1) else t
def rdAll (s : ByteArray) : Tb := rdP s s.size 0 zeroT
theorem rdP_end (s : ByteArray) (b pos : Nat) (t : Tb) (h : ¬ pos < s.size) : rdP s b pos t = t := by
  cases b with
  | zero => rfl
  | succ b => unfold rdP; rw [if_neg h]
theorem rdP_step (s : ByteArray) (b pos : Nat) (t : Tb) (h : pos < s.size) : rdP s (b + 1) pos t = rdP s b (pos + (Utf8.decode s pos).2) (stepR t pos (Utf8.decode s pos).1) := by
  rw [rdP, if_pos h]
theorem widthP (s : ByteArray) (pos : Nat) (h : pos < s.size) : 1 ≤ (Utf8.decode s pos).2 := by
  by_cases ha : (s[pos]'h).toNat < 128
  · rw [decode_ascii s pos h ha]
    exact Nat.le_refl _
  · exact (decode_high s pos h (by omega)).2
theorem stepR_len (t : Tb) (pos r : Nat) : (stepR t pos r).cs.length + (stepR t pos r).rs.length ≤ t.cs.length + t.rs.length + 1 := by
  unfold stepR
  split
  · omega
  · split
    · simp; omega
    · simp; omega
theorem rdP_len (s : ByteArray) : ∀ b pos t, (rdP s b pos t).cs.length + (rdP s b pos t).rs.length ≤ t.cs.length + t.rs.length + b := by
  intro b
  induction b with
  | zero => intro pos t; simp [rdP]
  | succ b ih =>
    intro pos t
    by_cases h : pos < s.size
    · rw [rdP_step _ _ _ _ h]
      have := ih (pos + (Utf8.decode s pos).2) (stepR t pos (Utf8.decode s pos).1)
      have := stepR_len t pos (Utf8.decode s pos).1
      omega
    · rw [rdP_end _ _ _ _ h]; omega
theorem rdAll_len (s : ByteArray) : (rdAll s).cs.length ≤ s.size ∧ (rdAll s).rs.length ≤ s.size := by
  have := rdP_len s s.size 0 zeroT
  unfold rdAll
  simp [zeroT] at this ⊢
  omega
def readPa (s : ByteArray) : Pout := if 8000 < s.size then ⟨zeroT, 0, 2⟩ else if pathB (rdAll s) = s then ⟨rdAll s, 0, 0⟩ else ⟨zeroT, 0, 3⟩
/-- the numbers up to the first zero -/
def up0 (l : List UInt8) : List Int := (l.takeWhile (· != 0)).map fun b => (b.toNat : Int)
def upT (s : ByteArray) : Tb := ⟨up0 (s.extract 0 5).data.toList, up0 (s.extract 5 s.size).data.toList⟩
def readQa (s : ByteArray) : Pout := if 8000 < s.size then ⟨zeroT, 0, 2⟩ else if s.size ≠ 10 then ⟨zeroT, 0, 3⟩ else if pathB (upT s) = s then ⟨upT s, 0, 0⟩ else ⟨zeroT, 0, 3⟩
/-- the bytes read one by one, all below 128 -/
def rdL : List UInt8 → Nat → Tb → Tb
  | [], _, t => t
  | c :: l, pos, t => rdL l (pos + 1) (stepR t pos c.toNat)
theorem rdP_ascii (s : ByteArray) (h : ∀ k (hk : k < s.size), (s[k]'hk).toNat < 128) : ∀ b pos t, s.size = pos + b → rdP s b pos t = rdL (s.data.toList.drop pos) pos t := by
  intro b
  induction b with
  | zero =>
    intro pos t e
    rw [List.drop_of_length_le (by simp; have : s.data.size = s.size := rfl; omega)]
    rfl
  | succ b ih =>
    intro pos t e
    have hp : pos < s.size := by omega
    rw [rdP_step _ _ _ _ hp, decode_ascii s pos hp (h pos hp), ih (pos + 1) _ (by omega)]
    have hp' : pos < s.data.toList.length := by simpa using hp
    rw [List.drop_eq_getElem_cons hp']
    rfl
theorem rdL_app (a b : List UInt8) : ∀ pos t, rdL (a ++ b) pos t = rdL b (pos + a.length) (rdL a pos t) := by
  induction a with
  | nil => intro pos t; rfl
  | cons c a ih =>
    intro pos t
    show rdL (a ++ b) (pos + 1) _ = rdL b (pos + (a.length + 1)) (rdL a (pos + 1) _)
    rw [ih, Nat.add_assoc, Nat.add_comm 1 a.length]
theorem rdL_zeros (n : Nat) : ∀ pos t, rdL (List.replicate n 0) pos t = t := by
  induction n with
  | zero => intro pos t; rfl
  | succ n ih =>
    intro pos t
    rw [List.replicate_succ]
    show rdL _ (pos + 1) (stepR t pos 0) = t
    rw [ih]
    rfl
theorem rdL_first (l : List Int) : (∀ z ∈ l, 1 ≤ z ∧ z ≤ 8) → ∀ pos t, pos + l.length ≤ 5 → rdL (l.map fun z => UInt8.ofNat z.toNat) pos t = ⟨t.cs ++ l, t.rs⟩ := by
  induction l with
  | nil => intro _ pos t _; simp [rdL]
  | cons z l ih =>
    intro h pos t hp
    have hz := h z (by simp)
    simp at hp
    rw [List.map_cons]
    show rdL _ (pos + 1) (stepR t pos (UInt8.ofNat z.toNat).toNat) = _
    rw [ih (fun y hy => h y (by simp [hy])) _ _ (by omega)]
    have e : (UInt8.ofNat z.toNat).toNat = z.toNat := UInt8.toNat_ofNat_of_lt' (by simp [UInt8.size]; omega)
    rw [e]
    unfold stepR
    rw [if_neg (by omega), if_pos (by omega)]
    have e2 : (z.toNat : Int) = z := by omega
    simp [e2]
theorem rdL_second (l : List Int) : (∀ z ∈ l, 1 ≤ z ∧ z ≤ 8) → ∀ pos t, 5 ≤ pos → rdL (l.map fun z => UInt8.ofNat z.toNat) pos t = ⟨t.cs, t.rs ++ l⟩ := by
  induction l with
  | nil => intro _ pos t _; simp [rdL]
  | cons z l ih =>
    intro h pos t hp
    have hz := h z (by simp)
    rw [List.map_cons]
    show rdL _ (pos + 1) (stepR t pos (UInt8.ofNat z.toNat).toNat) = _
    rw [ih (fun y hy => h y (by simp [hy])) _ _ (by omega)]
    have e : (UInt8.ofNat z.toNat).toNat = z.toNat := UInt8.toNat_ofNat_of_lt' (by simp [UInt8.size]; omega)
    rw [e]
    unfold stepR
    rw [if_neg (by omega), if_neg (by omega)]
    have e2 : (z.toNat : Int) = z := by omega
    simp [e2]
theorem rdL_path (t : Tb) (hp : t.path = true) : rdL (pathL t) 0 zeroT = t := by
  obtain ⟨⟨h1, h2⟩, hn⟩ := (Tb.path_iff t).1 hp
  have l1 : t.cs.length ≤ 5 := by omega
  have l2 : t.rs.length ≤ 5 := by omega
  unfold pathL
  rw [rdL_app, halfL_len _ l1]
  unfold halfL
  rw [rdL_app, rdL_zeros, rdL_app, rdL_zeros, rdL_first _ (fun z hz => addr_at h1 hz) _ _ (by omega), rdL_second _ (fun z hz => addr_at h2 hz) _ _ (by omega)]
  simp [zeroT]
theorem halfL_small (l : List Int) (h : l.all addrB = true) : ∀ c ∈ halfL l, c.toNat < 128 := by
  intro c hc
  unfold halfL at hc
  rw [List.mem_append, List.mem_map, List.mem_replicate] at hc
  rcases hc with ⟨z, hz, rfl⟩ | ⟨_, rfl⟩
  · have := addr_at h hz
    have e : (UInt8.ofNat z.toNat).toNat = z.toNat := UInt8.toNat_ofNat_of_lt' (by simp [UInt8.size]; omega)
    omega
  · decide
theorem pathL_small (t : Tb) (hp : t.path = true) : ∀ c ∈ pathL t, c.toNat < 128 := by
  obtain ⟨⟨h1, h2⟩, _⟩ := (Tb.path_iff t).1 hp
  intro c hc
  unfold pathL at hc
  rw [List.mem_append] at hc
  exact hc.elim (halfL_small _ h1 c) (halfL_small _ h2 c)
theorem up0_half (l : List Int) (h : l.all addrB = true) : up0 (halfL l) = l := by
  have key : ∀ (l : List Int) (m : Nat), (∀ z ∈ l, 1 ≤ z ∧ z ≤ 8) → up0 (l.map (fun z => UInt8.ofNat z.toNat) ++ List.replicate m 0) = l := by
    intro l m
    induction l with
    | nil =>
      intro _
      cases m with
      | zero => rfl
      | succ m => rw [List.map_nil, List.nil_append, List.replicate_succ]; simp [up0]
    | cons z l ih =>
      intro h
      have hz := h z (by simp)
      have e : (UInt8.ofNat z.toNat).toNat = z.toNat := UInt8.toNat_ofNat_of_lt' (by simp [UInt8.size]; omega)
      have hne : (UInt8.ofNat z.toNat != 0) = true := by
        rw [bne_iff_ne]
        intro h0
        rw [h0] at e
        have : (0 : UInt8).toNat = 0 := rfl
        omega
      have := ih (fun y hy => h y (by simp [hy]))
      unfold up0 at this ⊢
      rw [List.map_cons, List.cons_append, List.takeWhile_cons, if_pos hne, List.map_cons, this, e]
      congr 1
      omega
  exact key l _ (fun z hz => addr_at h hz)
/-- what is read of a right path's bytes is that path -/
theorem read_path (s : ByteArray) (t : Tb) (hp : t.path = true) (hs : s = ⟨(pathL t).toArray⟩) : s.size = 10 ∧ rdAll s = t ∧ upT s = t := by
  obtain ⟨⟨h1, h2⟩, hn⟩ := (Tb.path_iff t).1 hp
  have l1 : t.cs.length ≤ 5 := by omega
  have l2 : t.rs.length ≤ 5 := by omega
  have hz : s.size = 10 := by rw [hs]; exact pathL_len t l1 l2
  have hd : s.data.toList = pathL t := by rw [hs]
  refine ⟨hz, ?_, ?_⟩
  · unfold rdAll
    rw [rdP_ascii s (fun k hk => by
      have hk' : k < s.data.toList.length := by simpa using hk
      have : s[k]'hk = s.data.toList[k]'hk' := rfl
      rw [this]
      exact pathL_small t hp _ (by rw [← hd]; exact List.getElem_mem hk')) s.size 0 zeroT (by omega), List.drop_zero, hd]
    exact rdL_path t hp
  · unfold upT
    have e1 : (s.extract 0 5).data.toList = halfL t.cs := by
      rw [ByteArray.data_extract, Array.toList_extract, hd]
      unfold pathL
      simp only [List.extract_eq_take_drop, List.drop_zero, Nat.sub_zero]
      rw [List.take_append_of_le_length (by rw [halfL_len _ l1]; omega), List.take_of_length_le (by rw [halfL_len _ l1]; omega)]
    have e2 : (s.extract 5 s.size).data.toList = halfL t.rs := by
      rw [ByteArray.data_extract, Array.toList_extract, hd, hz]
      unfold pathL
      simp only [List.extract_eq_take_drop]
      rw [List.drop_append_of_le_length (by rw [halfL_len _ l1]; omega), List.drop_of_length_le (by rw [halfL_len _ l1]; omega), List.nil_append, List.take_of_length_le (by rw [halfL_len _ l2]; omega)]
    rw [e1, e2, up0_half _ h1, up0_half _ h2]
theorem rdAll_empty : rdAll ByteArray.empty = zeroT := rfl
theorem pathB_zero : pathB zeroT ≠ ByteArray.empty := by
  intro h
  have := congrArg ByteArray.size h
  rw [show pathB zeroT = ⟨(pathL zeroT).toArray⟩ from rfl] at this
  have h2 : (⟨(pathL zeroT).toArray⟩ : ByteArray).size = 10 := pathL_len zeroT (by simp [zeroT]) (by simp [zeroT])
  rw [h2] at this
  cases this
theorem readPa_readQa (s : ByteArray) : readPa s = readQa s := by
  unfold readPa readQa
  by_cases h8 : 8000 < s.size
  · rw [if_pos h8, if_pos h8]
  rw [if_neg h8, if_neg h8]
  by_cases hr : pathB (rdAll s) = s
  · rw [if_pos hr]
    have hpp : (rdAll s).path = true := by
      cases hh : (rdAll s).path with
      | true => rfl
      | false =>
        have e : pathB (rdAll s) = ByteArray.empty := by unfold pathB; rw [hh]; rfl
        rw [e] at hr
        rw [← hr, rdAll_empty] at e
        exact absurd e pathB_zero
    have e : s = ⟨(pathL (rdAll s)).toArray⟩ := by
      have : pathB (rdAll s) = ⟨(pathL (rdAll s)).toArray⟩ := by unfold pathB; rw [hpp]; rfl
      rw [← this]; exact hr.symm
    obtain ⟨hz, _, hu⟩ := read_path s (rdAll s) hpp e
    rw [if_neg (by omega), hu, if_pos hr]
  · rw [if_neg hr]
    by_cases hz : s.size = 10
    · rw [if_neg (by omega)]
      by_cases hq : pathB (upT s) = s
      · have hpp : (upT s).path = true := by
          cases hh : (upT s).path with
          | true => rfl
          | false =>
            have e : pathB (upT s) = ByteArray.empty := by unfold pathB; rw [hh]; rfl
            rw [e] at hq
            rw [← hq] at hz
            cases hz
        have e : s = ⟨(pathL (upT s)).toArray⟩ := by
          have : pathB (upT s) = ⟨(pathL (upT s)).toArray⟩ := by unfold pathB; rw [hpp]; rfl
          rw [← this]; exact hq.symm
        obtain ⟨_, hu, _⟩ := read_path s (upT s) hpp e
        rw [hu] at hr
        exact absurd hq hr
      · rw [if_neg hq]
    · rw [if_pos hz]
theorem readPa_len (s : ByteArray) : (readPa s).t.cs.length ≤ 5 ∧ (readPa s).t.rs.length ≤ 5 := by
  unfold readPa
  split
  · simp [zeroT]
  · split
    · rename_i hr
      have hpp : (rdAll s).path = true := by
        cases hh : (rdAll s).path with
        | true => rfl
        | false =>
          have e : pathB (rdAll s) = ByteArray.empty := by unfold pathB; rw [hh]; rfl
          rw [e] at hr
          rw [← hr, rdAll_empty] at e
          exact absurd e pathB_zero
      have := ((Tb.path_iff _).1 hpp).2
      simp only
      omega
    · simp [zeroT]
end Go.Proofs.Ytineecongiplgaa
