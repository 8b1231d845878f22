/- THE BYTES OF A PATH over lists. -/
import Derived.Test.YtimocipgikefoabPathP
namespace Go.Proofs.Ytimocipgikefoab
open Go.RowKit
set_option linter.unusedVariables false
set_option linter.unusedSimpArgs false

def halfL (l : List Int) : List UInt8 := l.map (fun z => UInt8.ofNat z.toNat) ++ List.replicate (5 - l.length) 0
def halfN (l : List Int) (j : Nat) : List Int := l.take j ++ List.replicate (5 - j) 0
def pathL (t : Tb) : List UInt8 := halfL t.cs ++ halfL t.rs
def pathB (t : Tb) : ByteArray := if t.path then ⟨(pathL t).toArray⟩ else ByteArray.empty
theorem addr_at {l : List Int} (h : l.all addrB = true) {z : Int} (hz : z ∈ l) : 1 ≤ z ∧ z ≤ 8 := by
  rw [List.all_eq_true] at h
  have := h z hz
  unfold addrB at this
  simpa using this
theorem halfN_len (l : List Int) (j : Nat) (h : j ≤ l.length) (h5 : l.length ≤ 5) : (halfN l j).length = 5 := by
  unfold halfN
  rw [List.length_append, List.length_take, List.length_replicate]
  omega
theorem halfN_step (l : List Int) (j : Nat) (h : j < l.length) (h5 : l.length ≤ 5) : (halfN l j).set j l[j] = halfN l (j + 1) := by
  unfold halfN
  rw [List.set_append]
  rw [if_neg (by rw [List.length_take]; omega)]
  rw [List.length_take, Nat.min_eq_left (by omega), Nat.sub_self, List.take_succ_eq_append_getElem h, List.append_assoc]
  congr 1
  rw [show 5 - j = (5 - (j + 1)) + 1 by omega, List.replicate_succ]
  rfl
theorem halfL_num (l : List Int) (h : l.all addrB = true) : (halfL l).map (fun b => (b.toNat : Int)) = halfN l l.length := by
  unfold halfL halfN
  rw [List.map_append, List.map_replicate, List.take_length, List.map_map]
  congr 1
  have : ∀ z ∈ l, ((fun (b : UInt8) => (b.toNat : Int)) ∘ fun z : Int => UInt8.ofNat z.toNat) z = z := fun z hz => by
    obtain ⟨h1, h2⟩ := addr_at h hz
    simp only [Function.comp]
    rw [UInt8.toNat_ofNat_of_lt' (by simp [UInt8.size]; omega)]
    omega
  calc l.map _ = l.map id := List.map_congr_left this
    _ = l := List.map_id l
theorem halfL_len (l : List Int) (h5 : l.length ≤ 5) : (halfL l).length = 5 := by
  unfold halfL
  rw [List.length_append, List.length_map, List.length_replicate]
  omega
theorem pathL_len (t : Tb) (h1 : t.cs.length ≤ 5) (h2 : t.rs.length ≤ 5) : (pathL t).length = 10 := by
  unfold pathL
  rw [List.length_append, halfL_len _ h1, halfL_len _ h2]
theorem bytes_two (a b : List UInt8) : (⟨a.toArray⟩ : ByteArray) ++ ⟨b.toArray⟩ = ⟨(a ++ b).toArray⟩ := by
  apply ByteArray.ext
  simp
end Go.Proofs.Ytimocipgikefoab
