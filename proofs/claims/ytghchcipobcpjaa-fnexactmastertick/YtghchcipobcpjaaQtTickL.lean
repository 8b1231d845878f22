/- A QUESTION ISSUED: what is told of it is small. -/
import Derived.Test.YtghchcipobcpjaaQtIssI
import Derived.Test.YtghchcipobcpjaaQtGrowW
namespace Go.Proofs.Ytghchcipobcpjaa
open Go.RowKit
set_option linter.unusedVariables false
set_option linter.unusedSimpArgs false

theorem csum_cons {α : Type} (f : α → Nat) (x : α) (l : List α) : csum f (x :: l) = (f x : Int) + csum f l := by simp [csum]
theorem csum_app {α : Type} (f : α → Nat) (l k : List α) : csum f (l ++ k) = csum f l + csum f k := by simp [csum]
theorem riseW_sum (nx : Int) : ∀ (l : List Wt) (lo : Int), riseW lo nx l = true → csum Wt.sz l ≤ 40 * (l.length : Int)
  | [], _, _ => by simp [csum]
  | x :: l, lo, h => by
    unfold riseW at h
    simp only [Bool.and_eq_true] at h
    have hb := ((bodyB_iff _).1 h.2.2.1).2
    have ih := riseW_sum nx l x.i h.2.2.2.2.2.2.2
    have e : Wt.sz x = x.t.size := rfl
    rw [csum_cons, List.length_cons]
    omega
theorem freshD_sum (nx : Int) (op : List Wt) : ∀ (l : List Dn) (seen : List Int), freshD nx op seen l = true → csum Dn.sz l ≤ 40 * (l.length : Int)
  | [], _, _ => by simp [csum]
  | x :: l, seen, h => by
    unfold freshD at h
    simp only [Bool.and_eq_true, decide_eq_true_eq] at h
    have ih := freshD_sum nx op l _ h.2
    have hb := h.1.2.2.2.2
    have e : Dn.sz x = x.a.size := rfl
    rw [csum_cons, List.length_cons]
    omega
theorem right_small {s : Mst} (h : s.right = true) : s.tot ≤ 1000 := by
  have hl := right_len h
  unfold Mst.right openW donesB at h
  simp only [Bool.and_eq_true, decide_eq_true_eq] at h
  have a := riseW_sum _ _ _ h.2.1.1
  have b := freshD_sum _ _ _ _ h.2.2.2
  unfold Mst.tot
  omega
/-- what is told of a question issued, is small -/
theorem issueM_small (s : Mst) (ask : ByteArray) : (issueM s ask).m.tot ≤ 2000 ∧ (issueM s ask).m.op.length ≤ 4 ∧ (issueM s ask).m.dn.length ≤ 20 ∧ (issueM s ask).se.length ≤ 1 := by
  have nil : ∀ c, (moIll c).m.tot ≤ 2000 ∧ (moIll c).m.op.length ≤ 4 ∧ (moIll c).m.dn.length ≤ 20 ∧ (moIll c).se.length ≤ 1 := fun c => by
    simp [moIll, Mst.tot, csum]
  unfold issueM
  split
  · exact nil 2
  split
  case isFalse => exact nil 1
  case isTrue h =>
    split
    · exact nil 9
    · have hl := right_len h.1
      have ht := right_small h.1
      have hb := ((bodyB_iff _).1 h.2).2
      have e : Wt.sz ⟨s.nx, ask, 1, 0⟩ = ask.size := rfl
      unfold Mst.tot at ht ⊢
      dsimp only
      rw [csum_app, csum_cons, List.length_append, e]
      have e2 : csum Wt.sz [] = 0 := rfl
      rw [e2]
      simp only [List.length_cons, List.length_nil]
      omega
end Go.Proofs.Ytghchcipobcpjaa
/- A MASTER's TICK: what it comes to; plain. -/
namespace Go.Proofs.Ytghchcipobcpjaa
open Go.RowKit
set_option linter.unusedVariables false
set_option linter.unusedSimpArgs false

theorem rise_facts {nx : Int} : ∀ (l : List Wt) (lo : Int), riseW lo nx l = true → (∀ x ∈ l, lo < x.i ∧ x.i < nx ∧ bodyB x.t = true ∧ 1 ≤ x.r ∧ x.r ≤ 3 ∧ 0 ≤ x.g ∧ x.g ≤ 2) ∧ (l.map Wt.i).Nodup
  | [], _, _ => ⟨fun x hx => by simp at hx, by simp⟩
  | x :: l, lo, h => by
    unfold riseW at h
    simp only [Bool.and_eq_true, decide_eq_true_eq] at h
    obtain ⟨h1, h2, h3, h4, h5, h6, h7, h8⟩ := h
    obtain ⟨a, b⟩ := rise_facts l x.i h8
    refine ⟨fun y hy => ?_, ?_⟩
    · rcases List.mem_cons.1 hy with rfl | hy
      · exact ⟨h1, h2, h3, h4, h5, h6, h7⟩
      · have := a y hy
        exact ⟨by omega, this.2⟩
    · rw [List.map_cons, List.nodup_cons]
      refine ⟨fun hm => ?_, b⟩
      obtain ⟨y, hy, e⟩ := List.mem_map.1 hm
      have := (a y hy).1
      omega
theorem ids_inj : ∀ {l : List Wt}, (l.map Wt.i).Nodup → ∀ x ∈ l, ∀ y ∈ l, x.i = y.i → x = y
  | [], _, x, hx, _, _, _ => by simp at hx
  | a :: l, h, x, hx, y, hy, e => by
    rw [List.map_cons, List.nodup_cons] at h
    have h1 : ∀ z ∈ l, z.i ≠ a.i := fun z hz e2 => h.1 (List.mem_map.2 ⟨z, hz, e2⟩)
    rcases List.mem_cons.1 hx with ex | hx'
    · rcases List.mem_cons.1 hy with ey | hy'
      · rw [ex, ey]
      · exact absurd (by rw [← e, ex]) (h1 y hy')
    · rcases List.mem_cons.1 hy with ey | hy'
      · exact absurd (by rw [e, ey]) (h1 x hx')
      · exact ids_inj h.2 x hx' y hy' e
def dropAll (L : List Wt) (ids : List Int) : List Wt := L.filter fun x => !ids.contains x.i
theorem dropAll_nil (L : List Wt) : dropAll L [] = L := by
  unfold dropAll
  rw [List.filter_eq_self]
  intro a _
  rfl
theorem dropAll_more (L : List Wt) (ids : List Int) (i : Int) : dropW (dropAll L ids) i = dropAll L (ids ++ [i]) := by
  unfold dropW dropAll
  rw [List.filter_filter]
  apply List.filter_congr
  intro x _
  by_cases h1 : x.i = i <;> by_cases h2 : x.i ∈ ids <;> simp [h1, h2] <;> simp_all
theorem overW_mem {l : List Wt} {i : Int} : i ∈ overW l ↔ ∃ x ∈ l, overB x = true ∧ x.i = i := by
  unfold overW
  rw [List.mem_map]
  constructor
  · rintro ⟨x, hx, rfl⟩
    rw [List.mem_filter] at hx
    exact ⟨x, hx.1, hx.2, rfl⟩
  · rintro ⟨x, hx, hb, rfl⟩
    exact ⟨x, List.mem_filter.2 ⟨hx, hb⟩, rfl⟩
theorem tick_final {l : List Wt} (hnd : (l.map Wt.i).Nodup) : dropAll (l.map growW) (overW l) = (l.filter fun x => !overB x).map growW := by
  unfold dropAll
  rw [List.filter_map]
  congr 1
  apply List.filter_congr
  intro x hx
  show (!(overW l).contains (growW x).i) = !overB x
  rw [growW_i]
  congr 1
  cases h : overB x with
  | true => simpa using overW_mem.2 ⟨x, hx, h, rfl⟩
  | false =>
    rw [Bool.eq_false_iff]
    intro hc
    obtain ⟨y, hy, hb, e⟩ := overW_mem.1 (by simpa using hc : x.i ∈ overW l)
    have := ids_inj hnd y hy x hx e
    subst this
    rw [h] at hb
    cases hb
theorem overW_nodup {l : List Wt} (hnd : (l.map Wt.i).Nodup) : (overW l).Nodup :=
  List.Nodup.sublist (List.Sublist.map Wt.i (List.filter_sublist (p := overB) (l := l))) hnd
theorem tick_place {l : List Wt} (hnd : (l.map Wt.i).Nodup) (k : Nat) (hk : k < (overW l).length) :
    placeW (dropAll (l.map growW) ((overW l).take k)) (overW l)[k] < (dropAll (l.map growW) ((overW l).take k)).length := by
  unfold placeW
  apply List.findIdx_lt_length_of_exists
  obtain ⟨y, hy, hb, e⟩ := overW_mem.1 (List.getElem_mem hk)
  refine ⟨growW y, ?_, by rw [growW_i]; simpa using e⟩
  unfold dropAll
  rw [List.mem_filter]
  refine ⟨List.mem_map.2 ⟨y, hy, rfl⟩, ?_⟩
  rw [growW_i, e]
  have hn : (overW l)[k] ∉ (overW l).take k := by
    intro hm
    obtain ⟨j, hj, e2⟩ := List.getElem_of_mem hm
    rw [List.length_take] at hj
    rw [List.getElem_take] at e2
    have := (List.pairwise_iff_getElem.1 (overW_nodup hnd)) j k (by omega) hk (by omega)
    exact this e2
  simpa using hn
def doneE (i : Int) : Dn := ⟨i, ⟨#[]⟩⟩
def tickM (s : Mst) : Mo :=
  if s.right = true then ⟨⟨s.nx, (s.op.filter fun x => !overB x).map growW, s.dn ++ (overW s.op).map doneE⟩, sentW s.op, 0, 0⟩ else moIll 1
theorem csum_grown (p : Wt → Bool) : ∀ l : List Wt, csum Wt.sz ((l.filter p).map growW) ≤ csum Wt.sz l
  | [] => by simp [csum]
  | x :: l => by
    have ih := csum_grown p l
    have e : Wt.sz (growW x) = Wt.sz x := by unfold Wt.sz; rw [growW_t]
    rw [csum_cons]
    by_cases h : p x = true
    · rw [List.filter_cons_of_pos h, List.map_cons, csum_cons, e]
      omega
    · rw [List.filter_cons_of_neg h]
      omega
theorem csum_doneE : ∀ l : List Int, csum Dn.sz (l.map doneE) = 0
  | [] => by simp [csum]
  | x :: l => by
    have ih := csum_doneE l
    have e : Dn.sz (doneE x) = 0 := rfl
    rw [List.map_cons, csum_cons, e]
    omega
theorem overW_len (l : List Wt) : (overW l).length ≤ l.length := by
  unfold overW
  rw [List.length_map]
  exact List.length_filter_le _ _
theorem sentW_len (l : List Wt) : (sentW l).length ≤ l.length := by
  unfold sentW
  rw [List.length_map]
  exact List.length_filter_le _ _
theorem tickM_small (s : Mst) : (tickM s).m.tot ≤ 2000 ∧ (tickM s).m.op.length ≤ 4 ∧ (tickM s).m.dn.length ≤ 30 ∧ (tickM s).se.length ≤ 4 := by
  unfold tickM
  by_cases h : s.right = true
  · rw [if_pos h]
    have h1 := right_small h
    have h2 := right_len h
    have h3 := csum_grown (fun x => !overB x) s.op
    have h4 : ((s.op.filter fun x => !overB x).map growW).length ≤ s.op.length := by rw [List.length_map]; exact List.length_filter_le _ _
    have h5 := overW_len s.op
    have h6 := sentW_len s.op
    have h7 : csum Dn.sz (s.dn ++ (overW s.op).map doneE) = csum Dn.sz s.dn := by rw [csum_app, csum_doneE]; omega
    unfold Mst.tot at h1 ⊢
    dsimp only
    rw [h7]
    simp only [List.length_append, List.length_map] at h4 ⊢
    omega
  · rw [if_neg h]
    simp [moIll, Mst.tot, csum]
end Go.Proofs.Ytghchcipobcpjaa
