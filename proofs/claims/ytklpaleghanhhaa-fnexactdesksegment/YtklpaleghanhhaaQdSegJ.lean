/- A SEGMENT's SEATS: the program's. Written by mksegj.py. -/
import Derived.Test.YtklpaleghanhhaaQdSegI
import Derived.Test.YtklpaleghanhhaaQdOutS
import Derived.Test.YtklpaleghanhhaaQdSegW
namespace Go.Proofs.Ytklpaleghanhhaa
open Go.RowKit
set_option linter.unusedVariables false
set_option linter.unusedSimpArgs false

theorem infoSe : (Try.prog.info? 145).map (fun i => (i.zero, i.size, i.bytes)) = some (some (.agg #[.int .i64 0, .int .i64 0, .int .i64 0, .int .i64 0, .int .i64 0, .int .i64 0, .int .i64 0, .int .i64 0, .int .i64 0, .int .i64 0, .int .i64 0, .int .i64 0, .int .i64 0, .int .i64 0, .int .i64 0, .slice none 0 0, .slice none 0 0, .slice none 0 0, .slice none 0 0, .bool false]), 20, 224) := by kernel_rfl
theorem cell_heap {w w' : World} {b : Nat} (h : w'.heap[b]? = w.heap[b]?) (o : Nat) : w'.cell? ⟨b, o, none⟩ = w.cell? ⟨b, o, none⟩ := by
  unfold World.cell?
  rw [h]
/-- a station's lists are slices -/
def Vs.ok (u : Vs) : Prop := (∃ p n c, u.a = .slice p n c) ∧ (∃ p n c, u.b = .slice p n c) ∧ (∃ p n c, u.c = .slice p n c) ∧ (∃ p n c, u.d = .slice p n c)
theorem stC_one {s : Stn} {u : Vs} (h : u.ok) : (stC s u).toArray.all (·.oneCell') = true := by
  obtain ⟨⟨_, _, _, e1⟩, ⟨_, _, _, e2⟩, ⟨_, _, _, e3⟩, ⟨_, _, _, e4⟩⟩ := h
  simp [stC, e1, e2, e3, e4, Value.oneCell']
theorem seC_one {s : Stn} {u : Vs} {b : Bool} (h : u.ok) : (seC s u b).toArray.all (·.oneCell') = true := by
  obtain ⟨⟨_, _, _, e1⟩, ⟨_, _, _, e2⟩, ⟨_, _, _, e3⟩, ⟨_, _, _, e4⟩⟩ := h
  simp [seC, e1, e2, e3, e4, Value.oneCell']
theorem seC_eq (s : Stn) (u : Vs) (b : Bool) : seC s u b = stC s u ++ [.bool b] := rfl
/-- the first seats laid -/
def PartSe (w : World) (r n : Nat) (cs : List (Stn × Vs × Bool)) (j : Nat) : Prop :=
  ∃ cur, w.heap[r]? = some (.cells cur 145 (0, 0)) ∧ cur.size = n * 20 ∧ ∀ k (hk : k < j) (h : k < cs.length), w.rangeAt r (k * 20) (seC cs[k].1 cs[k].2.1 cs[k].2.2)
theorem PartSe.step {w w2 : World} {r n j : Nat} {cs : List (Stn × Vs × Bool)} (h : PartSe w r n cs j) (hn : n = cs.length) (hj : j < cs.length) (hb : w2.heap[r]? = w.heap[r]?) :
    w2.there r (j * 20) 20 ∧ PartSe (w2.setCells r (j * 20) (seC cs[j].1 cs[j].2.1 cs[j].2.2)) r n cs (j + 1) := by
  obtain ⟨cur, hg, hs, hk⟩ := h
  obtain ⟨ht, ⟨cur', g1, g2⟩, g3, g4⟩ := part_step (hb.trans hg) hs (by omega : j < n) (seC cs[j].1 cs[j].2.1 cs[j].2.2) rfl
  refine ⟨ht, cur', g1, g2, fun k h1 h2 => ?_⟩
  by_cases hkj : k < j
  · refine g4 k hkj _ rfl (fun i v hv => ?_)
    rw [cell_heap hb]
    exact hk k hkj h2 i v hv
  · obtain rfl : k = j := by omega
    exact g3
end Go.Proofs.Ytklpaleghanhhaa
