/- BITS OF BYTES: the program's BitsRead and the model's. -/
import Derived.Test.YtggdjiijcoklgaaHBits
import Derived.Test.YtggdjiijcoklgaaHBox
import Derived.Test.YtggdjiijcoklgaaHSay
import Derived.Test.YtggdjiijcoklgaaHPlainTb
import Derived.Test.YtggdjiijcoklgaaHStM
import Derived.Test.YtggdjiijcoklgaaHSayR
import Derived.Test.YtggdjiijcoklgaaHLoadR
import Derived.Test.YtggdjiijcoklgaaHStnQ
import Derived.Test.YtggdjiijcoklgaaHStnH
import Derived.Laws.Tables
import Derived.Deep.MidRow
namespace Go.Proofs.Ytggdjiijcoklgaa
open Go.RowKit
set_option linter.unusedVariables false
set_option linter.unusedSimpArgs false

def bitsR (s : ByteArray) (m : Int) : List Int := if (1 ≤ m ∧ m ≤ 64) ∧ (s.size : Int) = (m + 7) / 8 then unpackL s m.toNat else []
/-- the row in the making -/
def unAt (s : ByteArray) (m k : Nat) : List Int := (unpackL s m).take k ++ List.replicate (m - k) 0
theorem unAt_length (s : ByteArray) (m k : Nat) (h : k ≤ m) : (unAt s m k).length = m := by unfold unAt; rw [List.length_append, List.length_take, unpackL_length, List.length_replicate]; omega
theorem unAt_step (s : ByteArray) (m k : Nat) (h : k < m) (x : Int) (hx : x = ((byteAt s (k / 8) / 2 ^ (k % 8) % 2 : Nat) : Int)) : (unAt s m k).set k x = unAt s m (k + 1) := by
  have hl : k < (unpackL s m).length := by rw [unpackL_length]; exact h
  unfold unAt
  have := set_midI (l := (unpackL s m).take k) (m := List.replicate (m - k) (0 : Int)) (c := x) (by intro e; have := congrArg List.length e; simp at this; omega)
  rw [List.length_take, Nat.min_eq_left (by omega)] at this
  rw [this, List.take_succ_eq_append_getElem hl, unpackL_get, hx, List.drop_replicate, Nat.sub_sub]
theorem and_table : ∀ r : Fin 8, ∀ o : Fin 256, wrap64 (bits BinOp.and IntKind.u8 ((o.val : Int) / 2 ^ r.val) 1) = ((o.val / 2 ^ r.val % 2 : Nat) : Int) := by decide +kernel
/-- numbers put behind one another -/
theorem OwnI.of {w : World} {base : Nat} {v : Value} {zs : List Int} {n : Nat} {xs : List Value} (h : w.ownsRow base 2 1 v n xs) (hn : n = zs.length) (hx : xs = zs.map (Value.int .i64)) : OwnI w base v zs := by subst hn; subst hx; exact h
theorem own_madeI (w : World) (base : Nat) (hb : base ≤ w.heap.size) : OwnI (w.alloc (.cells #[] 2)) base (.slice (some ⟨w.heap.size, 0, none⟩) 0 0) [] :=
  World.ownsRow_made w #[] 0 hb (by decide) rfl
theorem cells_newI (w : World) (xs : List Value) (t : TypeId) : ∀ j u, xs[j]? = some u → (w.alloc (.cells xs.toArray t)).cell? ((⟨w.heap.size, 0, none⟩ : Addr).add j) = some u := by
  intro j u hu
  have hn := heap_alloc_new w (.cells xs.toArray t)
  have e : (⟨w.heap.size, 0, none⟩ : Addr).add j = ⟨w.heap.size, j, none⟩ := by unfold Addr.add; split <;> simp_all
  rw [e]
  simp only [World.cell?, hn]
  simpa using hu
theorem cells_newG (w : World) (xs : List Value) (t : TypeId) (g : Nat) (hg : g = w.heap.size) : ∀ j u, xs[j]? = some u → (w.alloc (.cells xs.toArray t)).cell? ((⟨g, 0, none⟩ : Addr).add j) = some u := by subst hg; exact cells_newI w xs t
theorem bit_div {b r : Nat} (hb : b < 256) : (wrap64 ((b : Int) / ((2 ^ r : Nat) : Int))).tmod 2 = ((b / 2 ^ r % 2 : Nat) : Int) := by
  have e : (b : Int) / ((2 ^ r : Nat) : Int) = ((b / 2 ^ r : Nat) : Int) := by simp
  have h : b / 2 ^ r ≤ b := Nat.div_le_self _ _
  rw [e]
  generalize b / 2 ^ r = q at h
  have e2 : wrap64 (q : Int) = q := by unfold wrap64; omega
  rw [e2, Int.tmod_eq_emod_of_nonneg (by omega)]
  omega
end Go.Proofs.Ytggdjiijcoklgaa
/- THE WALKS of a station's parts: the program's. -/
namespace Go.Proofs.Ytggdjiijcoklgaa
open Go.RowKit
set_option linter.unusedVariables false
set_option linter.unusedSimpArgs false

set_option maxRecDepth 100000 in
set_option maxHeartbeats 1600000 in
theorem othersRise_any (v : Value) (zs : List Int) (own : Int) (w : World) (hl : zs.length ≤ 10000000) (hr : RowI w v zs) :
    Calls Try.prog 90 #[v, .int .i64 own] w fun e w' => e = .returned (.bool (othersB own zs)) ∧ w = w' := by
  obtain ⟨p, c, rfl, hr⟩ := hr
  have HR : Hid _ := hr
  clear hr
  obtain ⟨B, hB⟩ : ∃ B, Hid (othersB own zs = B) := ⟨_, show _ = _ from rfl⟩
  rw [hB.out]
  go_enter Try.func90, Try.ntmps90
  go_wp2
  go_loop [5, 10] (fun l i => ∃ k : Nat, k ≤ zs.length ∧ i = .int .i64 k ∧ l = .int .i64 ((0 :: zs).getD k 0) ∧ Hid ((List.range k).all (othersF own zs) = true)) (fun _ i => zs.length - (intOf i).toNat)
  case atStart => exact ⟨0, Nat.zero_le _, rfl, rfl, rfl⟩
  case round =>
    obtain ⟨k, hk, rfl, rfl, HA⟩ := hrel
    by_cases hlt : k < zs.length
    · obtain ⟨g, rfl, l1, q1⟩ := HR.out k hlt
      have HN : Hid (othersF own zs k = false → B = false) := fun h => by rw [← hB.out]; exact all_range_no hlt h
      have HY : Hid (othersF own zs k = true → (List.range (k + 1)).all (othersF own zs) = true) := fun h => all_range_more HA.out h
      have HL : Hid _ := last_succ zs k hlt
      rw [othersF_at own zs k hlt] at HN HY
      generalize (0 :: zs).getD k 0 = L at HN HY ⊢
      generalize zs[k] = z at q1 HN HY HL
      by_cases h1 : L < z
      · by_cases h2 : z = own
        · have e2 : (z == own) = true := by simpa using h2
          go_wp2
          go_ret
          exact ⟨ret_bool (HN.out (by simp [riseB, h2])).symm, rfl⟩
        · have e2 : (z == own) = false := by simpa using h2
          cases h3 : addrB z with
          | true =>
            go_wp2_with (go_at_call 87; refine (isAddress_any z _).mono ?_; rintro e w1 ⟨rfl, rfl⟩; rw [h3])
            go_round
            case rel => exact ⟨k + 1, by omega, by go_num, by rw [HL.out], HY.out (by simp [riseB, h1, h2, h3])⟩
            case measure => simp [intOf]; omega
          | false =>
            go_wp2_with (go_at_call 87; refine (isAddress_any z _).mono ?_; rintro e w1 ⟨rfl, rfl⟩; rw [h3])
            go_ret
            exact ⟨ret_bool (HN.out (by simp [riseB, h3])).symm, rfl⟩
      · go_wp2
        go_ret
        exact ⟨ret_bool (HN.out (by simp [riseB, show ¬ L < z by omega])).symm, rfl⟩
    · have e1 : k = zs.length := by omega
      have e2 : B = true := by rw [← hB.out, ← HA.out, e1]; rfl
      go_wp2
      go_ret
      exact ⟨by first | exact ret_bool e2.symm | rfl, rfl⟩
set_option maxRecDepth 100000 in
set_option maxHeartbeats 1600000 in
theorem outRight_any (v : Value) (ss : List ByteArray) (w : World) (hl : ss.length ≤ 10000000) (hz : ∀ s ∈ ss, s.size ≤ 9223372036854775807) (hr : RowS w v ss) :
    Calls Try.prog 93 #[v] w fun e w' => e = .returned (.bool (outB ss)) ∧ w = w' := by
  obtain ⟨p, c, rfl, hr⟩ := hr
  have HR : Hid _ := hr
  have HZ : Hid _ := hz
  clear hr hz
  obtain ⟨B, hB⟩ : ∃ B, Hid (ss.all bodyQ = B) := ⟨_, show _ = _ from rfl⟩
  unfold outB
  rw [hB.out]
  go_enter Try.func93, Try.ntmps93
  go_wp2
  go_loop [7] (fun i => ∃ k : Nat, k ≤ ss.length ∧ i = .int .i64 k ∧ Hid ((ss.take k).all bodyQ = true)) (fun i => ss.length - (intOf i).toNat)
  case atStart => exact ⟨0, Nat.zero_le _, rfl, rfl⟩
  case round =>
    obtain ⟨k, hk, rfl, HA⟩ := hrel
    by_cases hlt : k < ss.length
    · obtain ⟨g, rfl, l1, q1⟩ := HR.out k hlt
      have HN : Hid (bodyQ ss[k] = false → B = false) := fun h => by rw [← hB.out]; exact all_take_no hlt h
      have HY : Hid (bodyQ ss[k] = true → (ss.take (k + 1)).all bodyQ = true) := fun h => all_take_more hlt HA.out h
      have hbz := HZ.out ss[k] (List.getElem_mem hlt)
      generalize ss[k] = z at q1 HN HY hbz
      have HC : Hid (∀ W : World, Calls Try.prog 43 #[.string z] W fun e w' => e = .returned (.bool (bodyQ z)) ∧ W = w') := fun W => bodyRight_any z W hbz
      cases h3 : bodyQ z with
      | true =>
        rw [h3] at HC
        go_wp2_with (go_at_call 43; refine (HC.out _).mono ?_; rintro e w1 ⟨rfl, rfl⟩)
        go_round
        case rel => exact ⟨k + 1, by omega, by go_num, HY.out h3⟩
        case measure => simp [intOf]; omega
      | false =>
        rw [h3] at HC
        go_wp2_with (go_at_call 43; refine (HC.out _).mono ?_; rintro e w1 ⟨rfl, rfl⟩)
        go_ret
        exact ⟨ret_bool (by rw [HN.out h3]; rfl), rfl⟩
    · have e1 : ss.take k = ss := List.take_of_length_le (by omega)
      have e2 : B = true := by rw [← hB.out, ← HA.out, e1]
      subst e2
      by_cases h4 : ss.length ≤ 3
      all_goals
        go_wp2
        go_ret
        exact ⟨ret_bool (by simp <;> omega), rfl⟩
end Go.Proofs.Ytggdjiijcoklgaa
/- A WHOLE BOX read at once in a region that draws. -/
namespace Go
theorem Proofs.Ytggdjiijcoklgaa.exec_load_row {P : Program} {o : Oper} {a : Act} {w : World} (ty : TypeId) (x : Operand) (ho : o.op = .load ty x)
    (g : Nat) (hx : a.eval x = .pointer (some ⟨g, 0, none⟩)) (t : TypeId) (cs : Array Value) (fr : Nat × Nat) (d : TypeDesc) (hg : w.heap[g]? = some (.cells cs t fr))
    (hu : P.underlying ty = some d) (hd : (match d with | .struct _ | .array _ _ => true | _ => false) = true) (hi : (P.info? ty).map (·.size) = some cs.size) :
    (execOp a.eval o).run P w = .ok (.value (.agg cs)) w := by
  unfold execOp
  simp only [ho, hx, Instr.loadAt, Instr.sureAddr, Sem.run_bind, Sem.run_pure, Result.andThen_ok, run_loadVar_row w g t ty cs fr d hg hu hd hi]
end Go
/- WHAT A STATION GIVES BACK, nothing said: the same, marked, still marked. Written by mkouts.py. -/
namespace Go.Proofs.Ytggdjiijcoklgaa
open Go.RowKit
set_option linter.unusedVariables false
set_option linter.unusedSimpArgs false

theorem range_head {w : World} {b : Nat} {cs more : List Value} {t : TypeId} {fr : Nat × Nat} (hb : w.heap[b]? = some (.cells (cs ++ more).toArray t fr)) : w.rangeAt b 0 cs := fun j v hv => by
  have hj := (List.getElem?_eq_some_iff.1 hv).1
  rw [cell_of_row w b (0 + j) _ t fr hb, Nat.zero_add]
  simp only [List.getElem?_toArray]
  rw [List.getElem?_append_left hj, hv]
theorem eqSayS_nil (w : World) : Calls Try.prog 46 #[.slice none 0 0, .slice none 0 0] w fun e w' => e = .returned (.bool true) ∧ w = w' := by
  go_enter Try.func46, Try.ntmps46
  go_wp2
  go_loop [5] (fun i => i = .int .i64 0) (fun _ => 0)
  case atStart => rfl
  case round =>
    obtain rfl := hrel
    go_wp2
    go_ret
    exact ⟨rfl, rfl⟩
theorem markSayS_nil (k : Int) (w : World) : Calls Try.prog 52 #[.slice none 0 0, .int .i64 k] w fun e w' => e = .returned (.int .i64 k) ∧ w = w' := by
  go_enter Try.func52, Try.ntmps52
  go_wp2
  go_loop [1, 5] (fun x i => i = .int .i64 0 ∧ x = .int .i64 k) (fun _ _ => 0)
  case atStart => exact ⟨rfl, rfl⟩
  case round =>
    obtain ⟨rfl, rfl⟩ := hrel
    go_wp2
    go_ret
    exact ⟨rfl, rfl⟩
theorem heldSayS_nil (k : Int) (w : World) : Calls Try.prog 54 #[.slice none 0 0, .int .i64 k] w fun e w' => e = .returned (.int .i64 k) ∧ w = w' := by
  go_enter Try.func54, Try.ntmps54
  go_wp2
  go_loop [1, 5] (fun x i => i = .int .i64 0 ∧ x = .int .i64 k) (fun _ _ => 0)
  case atStart => exact ⟨rfl, rfl⟩
  case round =>
    obtain ⟨rfl, rfl⟩ := hrel
    go_wp2
    go_ret
    exact ⟨rfl, rfl⟩
set_option maxRecDepth 100000 in
set_option maxHeartbeats 3200000 in
theorem eqStationOut_nil (s : Stn) (cd : Int) (v1 v2 v3 v4 u1 u2 u3 u4 : Value) (w : World) (hl1 : s.kn.length ≤ 1048576) (hl2 : s.ws.length ≤ 1048576) (hl : s.gs.length ≤ 1048576) (hlw : ∀ g ∈ s.gs, g.2.length ≤ 1048576) (hl4 : s.os.length ≤ 1048576)
    (r1 : RowI w v1 s.kn) (r2 : RowI w v2 s.ws) (r3 : RowG w v3 s.gs) (r4 : RowS w v4 s.os) (t1 : RowI w u1 s.kn) (t2 : RowI w u2 s.ws) (t3 : RowG w u3 s.gs) (t4 : RowS w u4 s.os) :
    Calls Try.prog 11 #[.agg #[.int .i64 s.ad, .int .i64 s.bo, .int .i64 s.st, .int .i64 s.s.g, .int .i64 s.s.o, .int .i64 s.s.b, .int .i64 s.s.h, .int .i64 s.t.g, .int .i64 s.t.o, .int .i64 s.t.b, .int .i64 s.t.h, .int .i64 s.qu, .int .i64 s.tr, .int .i64 s.he, .int .i64 s.po, v1, v2, v3, v4, .slice none 0 0, .int .i64 cd], .agg #[.int .i64 s.ad, .int .i64 s.bo, .int .i64 s.st, .int .i64 s.s.g, .int .i64 s.s.o, .int .i64 s.s.b, .int .i64 s.s.h, .int .i64 s.t.g, .int .i64 s.t.o, .int .i64 s.t.b, .int .i64 s.t.h, .int .i64 s.qu, .int .i64 s.tr, .int .i64 s.he, .int .i64 s.po, u1, u2, u3, u4, .slice none 0 0, .int .i64 cd]] w fun e w' => e = .returned (.bool true) ∧ Below w.heap.size w w' := by
  have HE : Hid (∀ W, Below w.heap.size w W → Calls Try.prog 12 #[.agg #[.int .i64 s.ad, .int .i64 s.bo, .int .i64 s.st, .int .i64 s.s.g, .int .i64 s.s.o, .int .i64 s.s.b, .int .i64 s.s.h, .int .i64 s.t.g, .int .i64 s.t.o, .int .i64 s.t.b, .int .i64 s.t.h, .int .i64 s.qu, .int .i64 s.tr, .int .i64 s.he, .int .i64 s.po, v1, v2, v3, v4], .agg #[.int .i64 s.ad, .int .i64 s.bo, .int .i64 s.st, .int .i64 s.s.g, .int .i64 s.s.o, .int .i64 s.s.b, .int .i64 s.s.h, .int .i64 s.t.g, .int .i64 s.t.o, .int .i64 s.t.b, .int .i64 s.t.h, .int .i64 s.qu, .int .i64 s.tr, .int .i64 s.he, .int .i64 s.po, u1, u2, u3, u4]] W fun e w' => e = .returned (.bool true) ∧ Below W.heap.size W w') := fun W hW => eqStation_same s v1 v2 v3 v4 u1 u2 u3 u4 W hl1 hl2 hl hlw hl4 (r1.below hW) (r2.below hW) (r3.below hW) (r4.below hW) (t1.below hW) (t2.below hW) (t3.below hW) (t4.below hW)
  clear r1 r2 r3 r4 t1 t2 t3 t4 hl1 hl2 hl hlw hl4
  have ec : (cd != cd) = false := by simp
  have hA : Below w.heap.size w _ := keepB (all_alloc w (.cells #[.int .i64 s.ad, .int .i64 s.bo, .int .i64 s.st, .int .i64 s.s.g, .int .i64 s.s.o, .int .i64 s.s.b, .int .i64 s.s.h, .int .i64 s.t.g, .int .i64 s.t.o, .int .i64 s.t.b, .int .i64 s.t.h, .int .i64 s.qu, .int .i64 s.tr, .int .i64 s.he, .int .i64 s.po, v1, v2, v3, v4, .slice none 0 0, .int .i64 cd] 36)) (Nat.le_refl _) (all_alloc _ (.cells #[.int .i64 s.ad, .int .i64 s.bo, .int .i64 s.st, .int .i64 s.s.g, .int .i64 s.s.o, .int .i64 s.s.b, .int .i64 s.s.h, .int .i64 s.t.g, .int .i64 s.t.o, .int .i64 s.t.b, .int .i64 s.t.h, .int .i64 s.qu, .int .i64 s.tr, .int .i64 s.he, .int .i64 s.po, u1, u2, u3, u4, .slice none 0 0, .int .i64 cd] 36))
  have hX : Hid _ := blk (heap_alloc_new w (.cells #[.int .i64 s.ad, .int .i64 s.bo, .int .i64 s.st, .int .i64 s.s.g, .int .i64 s.s.o, .int .i64 s.s.b, .int .i64 s.s.h, .int .i64 s.t.g, .int .i64 s.t.o, .int .i64 s.t.b, .int .i64 s.t.h, .int .i64 s.qu, .int .i64 s.tr, .int .i64 s.he, .int .i64 s.po, v1, v2, v3, v4, .slice none 0 0, .int .i64 cd] 36)) (all_alloc _ (.cells #[.int .i64 s.ad, .int .i64 s.bo, .int .i64 s.st, .int .i64 s.s.g, .int .i64 s.s.o, .int .i64 s.s.b, .int .i64 s.s.h, .int .i64 s.t.g, .int .i64 s.t.o, .int .i64 s.t.b, .int .i64 s.t.h, .int .i64 s.qu, .int .i64 s.tr, .int .i64 s.he, .int .i64 s.po, u1, u2, u3, u4, .slice none 0 0, .int .i64 cd] 36))
  have hY : Hid _ := heap_alloc_new (w.alloc (.cells #[.int .i64 s.ad, .int .i64 s.bo, .int .i64 s.st, .int .i64 s.s.g, .int .i64 s.s.o, .int .i64 s.s.b, .int .i64 s.s.h, .int .i64 s.t.g, .int .i64 s.t.o, .int .i64 s.t.b, .int .i64 s.t.h, .int .i64 s.qu, .int .i64 s.tr, .int .i64 s.he, .int .i64 s.po, v1, v2, v3, v4, .slice none 0 0, .int .i64 cd] 36)) (.cells #[.int .i64 s.ad, .int .i64 s.bo, .int .i64 s.st, .int .i64 s.s.g, .int .i64 s.s.o, .int .i64 s.s.b, .int .i64 s.s.h, .int .i64 s.t.g, .int .i64 s.t.o, .int .i64 s.t.b, .int .i64 s.t.h, .int .i64 s.qu, .int .i64 s.tr, .int .i64 s.he, .int .i64 s.po, u1, u2, u3, u4, .slice none 0 0, .int .i64 cd] 36)
  rw [show (w.alloc (.cells #[.int .i64 s.ad, .int .i64 s.bo, .int .i64 s.st, .int .i64 s.s.g, .int .i64 s.s.o, .int .i64 s.s.b, .int .i64 s.s.h, .int .i64 s.t.g, .int .i64 s.t.o, .int .i64 s.t.b, .int .i64 s.t.h, .int .i64 s.qu, .int .i64 s.tr, .int .i64 s.he, .int .i64 s.po, v1, v2, v3, v4, .slice none 0 0, .int .i64 cd] 36)).heap.size = w.heap.size + 1 by simp] at hY
  go_enter Try.func11, Try.ntmps11
  go_upto_region 1 with fail
  generalize (w.alloc (.cells #[.int .i64 s.ad, .int .i64 s.bo, .int .i64 s.st, .int .i64 s.s.g, .int .i64 s.s.o, .int .i64 s.s.b, .int .i64 s.s.h, .int .i64 s.t.g, .int .i64 s.t.o, .int .i64 s.t.b, .int .i64 s.t.h, .int .i64 s.qu, .int .i64 s.tr, .int .i64 s.he, .int .i64 s.po, v1, v2, v3, v4, .slice none 0 0, .int .i64 cd] 36)).alloc (.cells #[.int .i64 s.ad, .int .i64 s.bo, .int .i64 s.st, .int .i64 s.s.g, .int .i64 s.s.o, .int .i64 s.s.b, .int .i64 s.s.h, .int .i64 s.t.g, .int .i64 s.t.o, .int .i64 s.t.b, .int .i64 s.t.h, .int .i64 s.qu, .int .i64 s.tr, .int .i64 s.he, .int .i64 s.po, u1, u2, u3, u4, .slice none 0 0, .int .i64 cd] 36) = A at hA hX hY ⊢
  go_upto_region 3 with (first
    | (refine wpList_load_mid rfl 33 (.tmp 5) rfl (w.heap.size) 0 rfl [.int .i64 s.ad, .int .i64 s.bo, .int .i64 s.st, .int .i64 s.s.g, .int .i64 s.s.o, .int .i64 s.s.b, .int .i64 s.s.h, .int .i64 s.t.g, .int .i64 s.t.o, .int .i64 s.t.b, .int .i64 s.t.h, .int .i64 s.qu, .int .i64 s.tr, .int .i64 s.he, .int .i64 s.po, v1, v2, v3, v4] _ (range_head (more := [.slice none 0 0, .int .i64 cd]) hX.out) Try.underlying33 rfl (by kernel_rfl) ?_)
    | (refine wpList_load_mid rfl 33 (.tmp 7) rfl (w.heap.size + 1) 0 rfl [.int .i64 s.ad, .int .i64 s.bo, .int .i64 s.st, .int .i64 s.s.g, .int .i64 s.s.o, .int .i64 s.s.b, .int .i64 s.s.h, .int .i64 s.t.g, .int .i64 s.t.o, .int .i64 s.t.b, .int .i64 s.t.h, .int .i64 s.qu, .int .i64 s.tr, .int .i64 s.he, .int .i64 s.po, u1, u2, u3, u4] _ (range_head (more := [.slice none 0 0, .int .i64 cd]) hY.out) Try.underlying33 rfl (by kernel_rfl) ?_)
    | (go_at_call 12; refine (HE.out _ hA).mono ?_; rintro e w1 ⟨rfl, hb1⟩))
  have a19 := cellW hX.out 19 _ rfl w1 hb1
  have a20 := cellW hX.out 20 _ rfl w1 hb1
  have b19 := cellW hY.out 19 _ rfl w1 hb1
  have b20 := cellW hY.out 20 _ rfl w1 hb1
  go_wp2_with (go_at_call 46; refine (eqSayS_nil _).mono ?_; rintro e w2 ⟨rfl, rfl⟩)
  go_ret
  exact ⟨rfl, keepB hA (Nat.le_refl _) hb1⟩
set_option maxRecDepth 100000 in
set_option maxHeartbeats 3200000 in
theorem markStationOut_nil (s : Stn) (cd : Int) (base top : Nat) (v1 v2 v3 v4 : Value) (w : World) (hl : s.cnt ≤ 1048576) (h : OwnStnB w base top v1 v2 v3 v4 s) :
    Calls Try.prog 14 #[.agg #[.int .i64 s.ad, .int .i64 s.bo, .int .i64 s.st, .int .i64 s.s.g, .int .i64 s.s.o, .int .i64 s.s.b, .int .i64 s.s.h, .int .i64 s.t.g, .int .i64 s.t.o, .int .i64 s.t.b, .int .i64 s.t.h, .int .i64 s.qu, .int .i64 s.tr, .int .i64 s.he, .int .i64 s.po, v1, v2, v3, v4, .slice none 0 0, .int .i64 cd], .int .i64 1] w fun e w' => e = .returned (.int .i64 (1 + s.cnt)) ∧ OwnStnB w' base top v1 v2 v3 v4 s.marked ∧ Only w w' base top := by
  have hA : Below w.heap.size w _ := all_alloc w (.cells #[.int .i64 s.ad, .int .i64 s.bo, .int .i64 s.st, .int .i64 s.s.g, .int .i64 s.s.o, .int .i64 s.s.b, .int .i64 s.s.h, .int .i64 s.t.g, .int .i64 s.t.o, .int .i64 s.t.b, .int .i64 s.t.h, .int .i64 s.qu, .int .i64 s.tr, .int .i64 s.he, .int .i64 s.po, v1, v2, v3, v4, .slice none 0 0, .int .i64 cd] 36)
  have hX : Hid _ := heap_alloc_new w (.cells #[.int .i64 s.ad, .int .i64 s.bo, .int .i64 s.st, .int .i64 s.s.g, .int .i64 s.s.o, .int .i64 s.s.b, .int .i64 s.s.h, .int .i64 s.t.g, .int .i64 s.t.o, .int .i64 s.t.b, .int .i64 s.t.h, .int .i64 s.qu, .int .i64 s.tr, .int .i64 s.he, .int .i64 s.po, v1, v2, v3, v4, .slice none 0 0, .int .i64 cd] 36)
  have hsA : (w.alloc (.cells #[.int .i64 s.ad, .int .i64 s.bo, .int .i64 s.st, .int .i64 s.s.g, .int .i64 s.s.o, .int .i64 s.s.b, .int .i64 s.s.h, .int .i64 s.t.g, .int .i64 s.t.o, .int .i64 s.t.b, .int .i64 s.t.h, .int .i64 s.qu, .int .i64 s.tr, .int .i64 s.he, .int .i64 s.po, v1, v2, v3, v4, .slice none 0 0, .int .i64 cd] 36)).heap.size = w.heap.size + 1 := by simp
  have hle := h.le
  have HM : Hid (∀ W, Below w.heap.size w W → Calls Try.prog 13 #[.agg #[.int .i64 s.ad, .int .i64 s.bo, .int .i64 s.st, .int .i64 s.s.g, .int .i64 s.s.o, .int .i64 s.s.b, .int .i64 s.s.h, .int .i64 s.t.g, .int .i64 s.t.o, .int .i64 s.t.b, .int .i64 s.t.h, .int .i64 s.qu, .int .i64 s.tr, .int .i64 s.he, .int .i64 s.po, v1, v2, v3, v4], .int .i64 1] W fun e w' => e = .returned (.int .i64 (1 + s.cnt)) ∧ OwnStnB w' base top v1 v2 v3 v4 s.marked ∧ Only W w' base top) := fun W hW => markStation_any s base top v1 v2 v3 v4 W hl (h.below hW)
  clear h hl
  generalize s.cnt = N at HM ⊢
  generalize s.marked = M at HM ⊢
  go_enter Try.func14, Try.ntmps14
  go_upto_region 1 with fail
  generalize w.alloc (.cells #[.int .i64 s.ad, .int .i64 s.bo, .int .i64 s.st, .int .i64 s.s.g, .int .i64 s.s.o, .int .i64 s.s.b, .int .i64 s.s.h, .int .i64 s.t.g, .int .i64 s.t.o, .int .i64 s.t.b, .int .i64 s.t.h, .int .i64 s.qu, .int .i64 s.tr, .int .i64 s.he, .int .i64 s.po, v1, v2, v3, v4, .slice none 0 0, .int .i64 cd] 36) = A at hA hX hsA ⊢
  go_upto_region 2 with (first
    | (refine wpList_load_mid rfl 33 (.tmp 5) rfl (w.heap.size) 0 rfl [.int .i64 s.ad, .int .i64 s.bo, .int .i64 s.st, .int .i64 s.s.g, .int .i64 s.s.o, .int .i64 s.s.b, .int .i64 s.s.h, .int .i64 s.t.g, .int .i64 s.t.o, .int .i64 s.t.b, .int .i64 s.t.h, .int .i64 s.qu, .int .i64 s.tr, .int .i64 s.he, .int .i64 s.po, v1, v2, v3, v4] _ (range_head (more := [.slice none 0 0, .int .i64 cd]) hX.out) Try.underlying33 rfl (by kernel_rfl) ?_)
    | (go_at_call 13; refine (HM.out _ hA).mono ?_; rintro e w1 ⟨rfl, m1, y1⟩))
  have hX1 : Hid _ := (y1.block w.heap.size (by omega) (by omega)).trans hX.out
  have a19 := cellW hX1.out 19 _ rfl w1 (Below.refl _ _)
  go_wp2_with (go_at_call 52; refine (markSayS_nil _ _).mono ?_; rintro e w2 ⟨rfl, rfl⟩)
  go_ret
  exact ⟨rfl, m1, (Only.below hA).trans y1⟩
set_option maxRecDepth 100000 in
set_option maxHeartbeats 3200000 in
theorem heldStationOut_nil (s : Stn) (cd : Int) (base : Nat) (v1 v2 v3 v4 : Value) (w : World) (hl : s.cnt ≤ 1048576) (h : OwnStn w base v1 v2 v3 v4 s.marked) :
    Calls Try.prog 15 #[.agg #[.int .i64 s.ad, .int .i64 s.bo, .int .i64 s.st, .int .i64 s.s.g, .int .i64 s.s.o, .int .i64 s.s.b, .int .i64 s.s.h, .int .i64 s.t.g, .int .i64 s.t.o, .int .i64 s.t.b, .int .i64 s.t.h, .int .i64 s.qu, .int .i64 s.tr, .int .i64 s.he, .int .i64 s.po, v1, v2, v3, v4, .slice none 0 0, .int .i64 cd], .int .i64 1] w fun e w' => e = .returned (.int .i64 (1 + s.cnt)) ∧ Below w.heap.size w w' := by
  have hA : Below w.heap.size w _ := all_alloc w (.cells #[.int .i64 s.ad, .int .i64 s.bo, .int .i64 s.st, .int .i64 s.s.g, .int .i64 s.s.o, .int .i64 s.s.b, .int .i64 s.s.h, .int .i64 s.t.g, .int .i64 s.t.o, .int .i64 s.t.b, .int .i64 s.t.h, .int .i64 s.qu, .int .i64 s.tr, .int .i64 s.he, .int .i64 s.po, v1, v2, v3, v4, .slice none 0 0, .int .i64 cd] 36)
  have hX : Hid _ := heap_alloc_new w (.cells #[.int .i64 s.ad, .int .i64 s.bo, .int .i64 s.st, .int .i64 s.s.g, .int .i64 s.s.o, .int .i64 s.s.b, .int .i64 s.s.h, .int .i64 s.t.g, .int .i64 s.t.o, .int .i64 s.t.b, .int .i64 s.t.h, .int .i64 s.qu, .int .i64 s.tr, .int .i64 s.he, .int .i64 s.po, v1, v2, v3, v4, .slice none 0 0, .int .i64 cd] 36)
  have HM : Hid (∀ W, Below w.heap.size w W → Calls Try.prog 53 #[.agg #[.int .i64 s.ad, .int .i64 s.bo, .int .i64 s.st, .int .i64 s.s.g, .int .i64 s.s.o, .int .i64 s.s.b, .int .i64 s.s.h, .int .i64 s.t.g, .int .i64 s.t.o, .int .i64 s.t.b, .int .i64 s.t.h, .int .i64 s.qu, .int .i64 s.tr, .int .i64 s.he, .int .i64 s.po, v1, v2, v3, v4], .int .i64 1] W fun e w' => e = .returned (.int .i64 (1 + s.cnt)) ∧ Below W.heap.size W w') := fun W hW => heldStation_any s base v1 v2 v3 v4 W hl (h.below hW)
  have hn : ¬ (1 : Int) + s.cnt < 0 := by unfold Stn.cnt; omega
  clear h hl
  generalize s.cnt = N at HM hn ⊢
  go_enter Try.func15, Try.ntmps15
  go_upto_region 1 with fail
  generalize w.alloc (.cells #[.int .i64 s.ad, .int .i64 s.bo, .int .i64 s.st, .int .i64 s.s.g, .int .i64 s.s.o, .int .i64 s.s.b, .int .i64 s.s.h, .int .i64 s.t.g, .int .i64 s.t.o, .int .i64 s.t.b, .int .i64 s.t.h, .int .i64 s.qu, .int .i64 s.tr, .int .i64 s.he, .int .i64 s.po, v1, v2, v3, v4, .slice none 0 0, .int .i64 cd] 36) = A at hA hX ⊢
  go_upto_region 4 with (first
    | (refine wpList_load_mid rfl 33 (.tmp 5) rfl (w.heap.size) 0 rfl [.int .i64 s.ad, .int .i64 s.bo, .int .i64 s.st, .int .i64 s.s.g, .int .i64 s.s.o, .int .i64 s.s.b, .int .i64 s.s.h, .int .i64 s.t.g, .int .i64 s.t.o, .int .i64 s.t.b, .int .i64 s.t.h, .int .i64 s.qu, .int .i64 s.tr, .int .i64 s.he, .int .i64 s.po, v1, v2, v3, v4] _ (range_head (more := [.slice none 0 0, .int .i64 cd]) hX.out) Try.underlying33 rfl (by kernel_rfl) ?_)
    | (go_at_call 53; refine (HM.out _ hA).mono ?_; rintro e w1 ⟨rfl, hb1⟩))
  have a19 := cellW hX.out 19 _ rfl w1 hb1
  go_wp2_with (go_at_call 54; refine (heldSayS_nil _ _).mono ?_; rintro e w2 ⟨rfl, rfl⟩)
  go_ret
  exact ⟨rfl, keepB hA (Nat.le_refl _) hb1⟩
end Go.Proofs.Ytggdjiijcoklgaa
