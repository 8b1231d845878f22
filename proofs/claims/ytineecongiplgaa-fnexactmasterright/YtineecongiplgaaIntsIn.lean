/- WHAT A SLICE OF NUMBERS THAT CAME IN gives: copied by the law, its length counted. -/
import Derived.Test.YtineecongiplgaaInts
import Derived.OpenShut
namespace Go.Proofs.Ytineecongiplgaa
open Go.RowKit
set_option linter.unusedVariables false
set_option linter.unusedSimpArgs false

/-- A slice of integers that came in: nil, or a row of 'cap' cells that hold 'zs'. -/
def IsRowN (k : IntKind) (w : World) (a : Option Addr) (len cap : Nat) (zs : List Int) : Prop :=
  (a = none ∧ len = 0 ∧ cap = 0 ∧ zs = []) ∨
  ∃ x, a = some x ∧ len ≤ cap ∧ cap ≤ maxLen ∧ zs.length = cap ∧ (∀ i, i < zs.length → w.cell? (x.add i) = some (.int k (zs.getD i 0))) ∧ ∀ n ∈ zs, (Lit.int k n).wf = true
/-- numbers that came in, to be read -/
def InI (w : World) (a : Option Addr) (zs : List Int) : Prop :=
  zs.length ≤ 9223372036854775807 ∧ ∀ i (h : i < zs.length), ∃ g o, a = some ⟨g, o, none⟩ ∧ g < w.heap.size ∧ w.cell? ⟨g, o + i, none⟩ = some (.int .i64 zs[i])
theorem IsRowN.ini {w : World} {a : Option Addr} {len cap : Nat} {zs : List Int} (h : IsRowN .i64 w a len cap zs) : ∃ ys : List Int, len = ys.length ∧ InI w a ys ∧ ∀ n ∈ ys, (Lit.int .i64 n).wf = true := by
  rcases h with ⟨_, h, _⟩ | ⟨x, rfl, h1, h2, h3, h4, h5⟩
  · exact ⟨[], h, ⟨by simp, fun i hi => by simp at hi⟩, fun n hn => by simp at hn⟩
  · unfold maxLen at h2
    refine ⟨zs.take len, by rw [List.length_take]; omega, ⟨by rw [List.length_take]; omega, fun i hi => ?_⟩, fun n hn => h5 n (List.mem_of_mem_take hn)⟩
    rw [List.length_take] at hi
    have hc0 := h4 0 (by omega)
    obtain ⟨g, o, sp⟩ := x
    have hsp : sp = none := by simpa [Addr.add] using World.cell?_spot hc0
    subst hsp
    have hg : g < w.heap.size := by
      rcases Nat.lt_or_ge g w.heap.size with h | h
      · exact h
      · simp [World.cell?, Addr.add, Array.getElem?_eq_none h] at hc0
    refine ⟨g, o, rfl, hg, ?_⟩
    have := h4 i (by omega)
    rw [show (⟨g, o, none⟩ : Addr).add i = ⟨g, o + i, none⟩ by unfold Addr.add; split <;> simp_all] at this
    rw [this, List.getD_eq_getElem?_getD, List.getElem?_eq_getElem (by omega), List.getElem_take]
    rfl
theorem InI.below {w w' : World} {a : Option Addr} {zs : List Int} (h : InI w a zs) (hb : Below w.heap.size w w') : InI w' a zs := by
  refine ⟨h.1, fun i hi => ?_⟩
  obtain ⟨g, o, e, h1, h2⟩ := h.2 i hi
  exact ⟨g, o, e, Nat.lt_of_lt_of_le h1 hb.size, (hb.cell (p := ⟨g, o + i, none⟩) h1).trans h2⟩
theorem info64 : (Try.prog.info? 2).map (fun i => (i.zero, i.size, i.bytes)) = some (some (.int .i64 0), 1, 8) := by kernel_rfl
theorem zeros_list (n : Nat) : (madeCells (Value.int .i64 0).cells (n * 1)).toList = (List.replicate n (0 : Int)).map (Value.int .i64) := by
  rw [show (Value.int .i64 0).cells = #[Value.int .i64 0] from rfl, toList_madeCells_one, List.map_replicate, Nat.mul_one]
theorem copy_step (zs : List Int) (j : Nat) (h : j < zs.length) : (zs.take j ++ List.replicate (zs.length - j) (0 : Int)).set j zs[j] = zs.take (j + 1) ++ List.replicate (zs.length - (j + 1)) 0 := by
  have := set_midI (l := zs.take j) (m := List.replicate (zs.length - j) (0 : Int)) (c := zs[j]) (by intro e; have := congrArg List.length e; simp at this; omega)
  rw [List.length_take, Nat.min_eq_left (by omega)] at this
  rw [this, List.take_succ_eq_append_getElem h, List.drop_replicate, Nat.sub_sub]
set_option maxRecDepth 100000 in
set_option maxHeartbeats 800000 in
theorem toInt64S_any (a : Option Addr) (c : Nat) (zs : List Int) (w : World) (hl : zs.length ≤ 1048576) (hr : InI w a zs) :
    Calls Try.prog 94 #[.slice a zs.length c] w fun e w' => ∃ v, e = .returned v ∧ OwnI w' w.heap.size v zs ∧ Below w.heap.size w w' := by
  obtain ⟨i0, hi, hz0, hz1, hz2⟩ := info_parts info64
  have HR : Hid _ := hr.2
  clear hr
  go_enter Try.func94, Try.ntmps94
  go_wp2_with (at_make; refine wpList_make_full _ rfl (.tmp 6) (.tmp 6) 23 rfl w.heap.size 2 i0 (.int .i64 0) 1 Try.underlying23 hi hz0 hz1 .i64 .i64 _ _ zs.length rfl rfl (by omega) (by omega) (by rw [hz2]; omega) (by unfold maxLen; omega) (Nat.le_refl _) ?_; intro w1 hown1 hgrow1; have hB1 := (Below.refl w.heap.size w).grown hgrow1 (Nat.le_refl _) (fun k e => by cases e); rw [zeros_list] at hown1)
  have HO1 : Hid (OwnI w1 w.heap.size (.slice (some ⟨w.heap.size, 0, none⟩) zs.length zs.length) (zs.take 0 ++ List.replicate (zs.length - 0) 0)) := by
    show OwnI _ _ _ _
    rw [List.take_zero, List.nil_append, Nat.sub_zero]
    unfold OwnI
    rw [List.length_replicate]
    exact hown1
  clear hown1 hgrow1
  go_loopw [4] (fun i wr => ∃ j : Nat, j ≤ zs.length ∧ i = .int .i64 j ∧ Hid (OwnI wr w.heap.size (.slice (some ⟨w.heap.size, 0, none⟩) zs.length zs.length) (zs.take j ++ List.replicate (zs.length - j) 0)) ∧ Below w.heap.size w wr) (fun i _ => zs.length - (intOf i).toNat)
  case atStart => exact ⟨0, Nat.zero_le _, rfl, HO1.out, hB1⟩
  case round =>
    obtain ⟨j, hj, rfl, HW, hbel⟩ := hrel
    have hlen : (zs.take j ++ List.replicate (zs.length - j) (0 : Int)).length = zs.length := by rw [List.length_append, List.length_take, List.length_replicate]; omega
    by_cases hlt : j < zs.length
    · have hk : j < (zs.take j ++ List.replicate (zs.length - j) (0 : Int)).length := by rw [hlen]; exact hlt
      obtain ⟨g, hpg, _, hgl, hq, hf⟩ := HW.out.cell j hk
      cases hpg
      obtain ⟨ga, oa, rfl, la, qa⟩ := HR.out j hlt
      have qa' := (hbel.cell (p := ⟨ga, oa + j, none⟩) la).trans qa
      clear qa
      have HST : Hid _ := copy_step zs j hlt
      generalize hzj : zs[j] = z at qa' HST
      have h1 := HW.out.set j hk z
      generalize (zs.take j ++ List.replicate (zs.length - j) (0 : Int))[j] = old at hq
      go_wp2
      go_roundw
      case rel => exact ⟨j + 1, by omega, by go_num, (show OwnI _ _ _ _ by rw [← HST.out]; exact h1), hbel.setCell (Nat.le_refl _) _⟩
      case measure => simp [intOf]; omega
    · obtain rfl : j = zs.length := by omega
      go_wp2
      go_ret
      refine ⟨_, rfl, ?_, hbel⟩
      have := HW.out
      rwa [List.take_length, Nat.sub_self, List.replicate_zero, List.append_nil] at this
theorem szInt64S_any (a : Option Addr) (n c : Nat) (w : World) (hn : n ≤ 9223372036854775807) :
    Calls Try.prog 91 #[.slice a n c, .int .i64 1048576] w fun x w' => x = .returned (.int .i64 (if n ≤ 1048576 then 1048576 - (n : Int) else -1)) ∧ w = w' := by
  by_cases h : n ≤ 1048576
  · have h1 : ¬ (1048576 : Int) - (n : Int) < 0 := by omega
    rw [if_pos h]
    go_enter Try.func91, Try.ntmps91
    go_wp2
    go_ret
    exact ⟨rfl, rfl⟩
  · have h1 : (1048576 : Int) - (n : Int) < 0 := by omega
    rw [if_neg h]
    go_enter Try.func91, Try.ntmps91
    go_wp2
    go_ret
    exact ⟨rfl, rfl⟩
end Go.Proofs.Ytineecongiplgaa
