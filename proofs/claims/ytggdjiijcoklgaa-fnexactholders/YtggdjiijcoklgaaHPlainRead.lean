/- ROWS of bytes that a call made for itself, by append or by a conversion of a text: what they read as, and a byte put behind. -/
import Derived.Test.YtggdjiijcoklgaaHKeep
import Derived.WalkKit
import Derived.WalkSpells
import Derived.Below
import Derived.Laws.AppendOwn
import Derived.Lib.ConvBytes
namespace Go.Proofs.Ytggdjiijcoklgaa
open Go.RowKit
set_option linter.unusedVariables false

def cellsC (l : List UInt8) : List Value := l.map fun b => Value.int .u8 (b.toNat : Int)
theorem cellsC_length (l : List UInt8) : (cellsC l).length = l.length := by simp [cellsC]
theorem cellsC_append (l m : List UInt8) : cellsC (l ++ m) = cellsC l ++ cellsC m := by simp [cellsC]
def OwnM (w : World) (base : Nat) (e : TypeId) (v : Value) (l : List UInt8) : Prop :=
  (v = .slice none 0 0 ∧ l = []) ∨
  ∃ (g cap : Nat) (cur : Array Value) (fz : Nat × Nat), v = .slice (some ⟨g, 0, none⟩) l.length cap ∧ base ≤ g ∧ w.heap[g]? = some (.cells cur e fz) ∧ (fz = (0, 0) ∨ cap ≤ fz.1) ∧ l.length ≤ cap ∧ cap ≤ maxLen ∧ cur.size = cap ∧ cur.toList.take l.length = cellsC l
theorem OwnM.nil (w : World) (base : Nat) (e : TypeId) : OwnM w base e (.slice none 0 0) [] := .inl ⟨rfl, rfl⟩
theorem OwnM.own {w : World} {base : Nat} {e : TypeId} {v : Value} {l : List UInt8} (h : w.ownsRow base e 1 v l.length (cellsC l)) : OwnM w base e v l := by
  obtain ⟨_, ⟨rfl, h0⟩ | ⟨g, cap, cur, rfl, h1, h2, h3, h4, h5, h6⟩⟩ := h
  · exact .inl ⟨rfl, List.eq_nil_of_length_eq_zero h0⟩
  · exact .inr ⟨g, cap, cur, (0, 0), rfl, h1, h2, .inl rfl, h3, h4, by simpa using h5, by simpa using h6⟩
theorem OwnM.mono {w : World} {base B : Nat} {e : TypeId} {v : Value} {l : List UInt8} (h : OwnM w base e v l) (hB : B ≤ base) : OwnM w B e v l := by
  rcases h with h | ⟨g, cap, cur, fz, h1, h2, h3⟩
  · exact .inl h
  · exact .inr ⟨g, cap, cur, fz, h1, Nat.le_trans hB h2, h3⟩
theorem OwnM.shape {w : World} {base : Nat} {e : TypeId} {v : Value} {l : List UInt8} (h : OwnM w base e v l) : ∃ a cap, v = .slice a l.length cap := by
  rcases h with ⟨rfl, rfl⟩ | ⟨g, cap, _, _, rfl, _⟩
  · exact ⟨_, _, rfl⟩
  · exact ⟨_, _, rfl⟩
theorem OwnM.lt {w : World} {base : Nat} {e : TypeId} {v : Value} {l : List UInt8} (h : OwnM w base e v l) : ∀ k, v.ownBlock = some k → base ≤ k ∧ k < w.heap.size := by
  intro k hk
  rcases h with ⟨rfl, rfl⟩ | ⟨g, cap, cur, fz, rfl, hb, hg, _⟩
  · simp [Value.ownBlock] at hk
  · simp [Value.ownBlock] at hk
    subst hk
    exact ⟨hb, (Array.getElem?_eq_some_iff.1 hg).1⟩
theorem OwnM.kept {w w' : World} {base : Nat} {e : TypeId} {v : Value} {l : List UInt8} (h : OwnM w base e v l) (hk : ∀ g, v.ownBlock = some g → w'.heap[g]? = w.heap[g]?) : OwnM w' base e v l := by
  rcases h with h | ⟨g, cap, cur, fz, rfl, hb, hg, rest⟩
  · exact .inl h
  · exact .inr ⟨g, cap, cur, fz, rfl, hb, (hk g rfl).trans hg, rest⟩
theorem OwnM.below {w w' : World} {base B : Nat} {e : TypeId} {v : Value} {l : List UInt8} (h : OwnM w base e v l) (hb : Below B w w') (hB : w.heap.size ≤ B) : OwnM w' base e v l :=
  h.kept fun g hg => hb.block g (by have := (h.lt g hg).2; omega)
theorem OwnM.alloc {w : World} {base : Nat} {e : TypeId} {v : Value} {l : List UInt8} (h : OwnM w base e v l) (o : Obj) : OwnM (w.alloc o) base e v l :=
  h.kept fun g hg => heap_alloc_old w o (h.lt g hg).2
theorem OwnM.grown {w w' : World} {base : Nat} {e : TypeId} {v : Value} {l : List UInt8} {row : Option Nat} (h : OwnM w base e v l) (hg : w.grownBy w' row) (hne : v.ownBlock = none ∨ v.ownBlock ≠ row) : OwnM w' base e v l :=
  h.kept fun g hk => hg.block g (h.lt g hk).2 (by
    rcases hne with hn | hn
    · rw [hn] at hk; cases hk
    · rw [← hk]; exact hn)
theorem OwnM.conv {P : Program} {w : World} {base : Nat} {v : Value} {l : List UInt8} {e : TypeId} (src dst : TypeId) (hs : P.underlying src = some (.slice e)) (he : P.underlying e = some (.int .u8)) (hd : P.underlying dst = some .string)
    (h : OwnM w base e v l) : (convert src dst v).run P w = .ok (.string ⟨l.toArray⟩) w := by
  rcases h with ⟨rfl, rfl⟩ | ⟨g, cap, cur, fz, rfl, _, hg, _, _, _, _, ht⟩
  · rw [run_convert_bytes_string w src dst e none 0 0 hs he hd]
    simp [Conv.bytesToString, Sem.run_pure]
    rfl
  · have hz : (⟨l.toArray⟩ : ByteArray).size = l.length := by simp [ByteArray.size]
    have hc : cellsB ⟨l.toArray⟩ = cellsC l := by simp [cellsB, cellsC]
    have := Lib.run_convert_whole w src e dst hs he hd g 0 ⟨l.toArray⟩ (bytes_of_cells (cs := cur.toList) (fr := fz) _ (by simpa using hg) (by rw [hz, hc]; simpa using ht)) cap
    rw [hz] at this
    exact this
/-- '[]byte(s)' -/
theorem OwnM.made {P : Program} (w : World) (src dst e : TypeId) (s : ByteArray) {u : TypeDesc} (base : Nat) (hs : P.underlying src = some u) (hd : P.underlying dst = some (.slice e)) (he : P.underlying e = some (.int .u8)) (hb : base ≤ w.heap.size) (hm : s.size ≤ maxLen) :
    ∃ v w', (convert src dst (.string s)).run P w = .ok v w' ∧ OwnM w' base e v s.data.toList ∧ Below w.heap.size w w' ∧ w'.heap.size = w.heap.size + 1 ∧ v.ownBlock = some w.heap.size := by
  have hge : s.size ≤ grownCap w s.size 0 e := grownCap_ge w s.size 0 e
  have hle : grownCap w s.size 0 e ≤ maxLen := grownCap_le_maxLen w s.size 0 e hm
  have hsz : (Lib.bytesCells w e s).size = grownCap w s.size 0 e := by
    unfold Lib.bytesCells
    rw [Array.size_append, Array.size_map, Array.size_replicate]
    show s.size + _ = _
    omega
  refine ⟨_, _, Lib.run_convert_string_bytes w src dst e s hs hd he, .inr ⟨w.heap.size, _, _, _, ?_, hb, Lib.bytesWorld_at_new w e s, .inr ?_, ?_, hle, hsz, ?_⟩, ⟨rfl, rfl, rfl, by rw [Lib.bytesWorld_size]; omega, fun k hk => Lib.bytesWorld_at_old w e s k hk⟩, Lib.bytesWorld_size w e s, rfl⟩
  · rw [Array.length_toList]; rfl
  · show _ ≤ (Lib.bytesCells w e s).size
    omega
  · rw [Array.length_toList]; exact hge
  · unfold Lib.bytesCells cellsC
    rw [Array.toList_append, Array.toList_map]
    exact List.take_left' (by rw [List.length_map])
/-- a byte behind a row -/
theorem OwnM.append {P : Program} (w : World) (base : Nat) (t ty e : TypeId) (i : TypeInfo) (z : Value) (ht : P.underlying t = some (.slice e)) (hi : P.info? e = some i) (hz : i.zero = some z)
    (hsize : i.size = 1) (hby : i.bytes = 1) (hzs : z.cells.size = 1) (v : Value) (l : List UInt8) (hown : OwnM w base e v l) (a : Addr) (c : Nat) (x : UInt8) (hx : w.cell? (a.add 0) = some (.int .u8 (x.toNat : Int))) (hl : l.length ≤ 1000000) (hbase : base ≤ w.heap.size) :
    ∃ v' w', (Builtin.append_ #[t, t] ty #[v, .slice (some a) 1 c]).run P w = .ok v' w' ∧ OwnM w' base e v' (l ++ [x]) ∧ w.grownBy w' v.ownBlock ∧ (v'.ownBlock = v.ownBlock ∨ ∃ k, v'.ownBlock = some k ∧ w.heap.size ≤ k) := by
  have hnews : ∀ j u, [Value.int .u8 (x.toNat : Int)][j]? = some u → w.cell? (a.add j) = some u := by
    intro j u h
    match j, h with
    | 0, h => simp at h; subst h; exact hx
  have h1 : ∀ u ∈ [Value.int .u8 (x.toNat : Int)], u.oneCell' = true := by intro u hu; simp at hu; subst hu; rfl
  have hcx : cellsC l ++ [Value.int .u8 (x.toNat : Int)] = cellsC (l ++ [x]) := by simp [cellsC]
  rcases hown with ⟨rfl, rfl⟩ | ⟨g, cap, cur, fz, rfl, hbg, hg, hfz, hnc, hcm, hcs, htake⟩
  · obtain ⟨v', w', r1, r2, r3, r4⟩ := run_append_own (P := P) w w.heap.size t ty e i z 1 1 ht hi hz hsize hby hzs (by decide) (.slice none 0 0) 0 [] ⟨by simp, .inl ⟨rfl, rfl⟩⟩ a 1 c _ rfl hnews h1 (by unfold maxLen; omega) (by omega) (Nat.le_refl _)
    refine ⟨v', w', r1, OwnM.mono (.own r2) hbase, r3, ?_⟩
    cases hq : v'.ownBlock with
    | none => exact .inl rfl
    | some k => exact .inr ⟨k, rfl, (r2.lt k hq).1⟩
  · by_cases hroom : l.length + 1 ≤ cap
    · have hf := run_firstCells_some (P := P) w 1 1 a 1 c [Value.int .u8 (x.toNat : Int)] rfl hnews
      have hlt : l.length < cur.size := by omega
      have hcell : w.cell? ⟨g, l.length, none⟩ = some cur[l.length] := by simp [World.cell?, hg, hlt]
      have hfro : w.frozen? ⟨g, l.length, none⟩ = false := by
        obtain ⟨lo, hi'⟩ := fz
        simp only [World.frozen?, hg, Bool.and_eq_false_iff, decide_eq_false_iff_not]
        rcases hfz with h | h
        · cases h; right; omega
        · left; simp only at h; omega
      have hst : (storeCells ⟨g, l.length, none⟩ [Value.int .u8 (x.toNat : Int)] 0).run P w = .ok () (w.setRow g (cur.setIfInBounds l.length (.int .u8 (x.toNat : Int)))) := by
        have hadd : (⟨g, l.length, none⟩ : Addr).add 0 = ⟨g, l.length, none⟩ := by unfold Addr.add; split <;> simp_all
        simp only [storeCells, Sem.run_bind]
        rw [hadd, run_store P w _ _ _ rfl, hcell]
        simp [hfro, setCell_eq_setRow w g l.length cur e fz _ hg]
      refine ⟨.slice (some ⟨g, 0, none⟩) (l.length + 1) cap, w.setRow g (cur.setIfInBounds l.length (.int .u8 (x.toNat : Int))), ?_, .inr ⟨g, cap, _, fz, by rw [List.length_append]; rfl, hbg, setRow_heap w g cur _ e _ hg, hfz, by rw [List.length_append]; exact hroom, hcm, by simpa using hcs, ?_⟩, ⟨rfl, rfl, rfl, by simp, fun k _ hk => setRow_other w g k _ (fun e => hk (by simp [Value.ownBlock, e]))⟩, .inl rfl⟩
      · simp [Builtin.append_, run_underlying ht, sizeOf, typeInfo, hi, hsize, Builtin.lenOf, hroom, hf, Addr.add_lit, hst]
      · rw [← hcx, ← htake, List.length_append]
        have := take_set (cs := cur.toList) (k := l.length) (.int .u8 (x.toNat : Int)) (by simpa using hlt)
        simpa using this
    · have holds : ∀ j u, (cellsC l)[j]? = some u → w.cell? ((⟨g, 0, none⟩ : Addr).add j) = some u := by
        intro j u hu
        have hadd : (⟨g, 0, none⟩ : Addr).add j = ⟨g, j, none⟩ := by unfold Addr.add; split <;> simp_all
        rw [hadd, cell_of_row w g j cur e fz hg]
        rw [← htake, List.getElem?_take] at hu
        split at hu
        · simpa using hu
        · cases hu
      have hr := run_append_grow (P := P) w t ty e i z ht hi hz ⟨g, 0, none⟩ l.length cap (cellsC l) (by rw [hsize, cellsC_length]; omega) holds a 1 c [Value.int .u8 (x.toNat : Int)] (by rw [hsize]; rfl) hnews (by omega) (by omega) (growslice_fits (by omega) (by rw [hby]; omega))
      have hge := grownCap_ge w (l.length + 1) cap e
      have hcm2 : grownCap w (l.length + 1) cap e ≤ maxLen := grownCap_le_maxLen w (l.length + 1) cap e (by unfold maxLen; omega)
      refine ⟨_, _, hr, .inr ⟨w.heap.size, _, _, (0, 0), by rw [List.length_append]; rfl, hbase, heap_alloc_new w.drew _, .inl rfl, by rw [List.length_append]; exact hge, hcm2, ?_, ?_⟩, ⟨rfl, rfl, rfl, by simp, fun k hk _ => heap_alloc_old w.drew _ hk⟩, .inr ⟨w.heap.size, rfl, Nat.le_refl _⟩⟩
      · simp only [Array.size_append, List.size_toArray, size_zeroCells, hzs, cellsC_length, List.length_cons, List.length_nil]
        omega
      · simp only [Array.toList_append, List.append_assoc]
        rw [← hcx, ← List.append_assoc, List.length_append]
        exact List.take_left' (by rw [List.length_append, cellsC_length]; rfl)
theorem wpList_append_M {P : Program} {w : World} {ops : Array Oper} {rest : List Oper} {o : Oper} {a : Act} {Q : Exit → Act → World → Prop} (hgd : o.guard = none) (s x : Operand) (t : TypeId)
    (ho : o.op = .call { callee := .builtin .append, args := #[s, x], argTypes := #[t, t] })
    (base : Nat) (e : TypeId) (i : TypeInfo) (z : Value) (ht : P.underlying t = some (.slice e)) (hi : P.info? e = some i) (hz : i.zero = some z) (hsize : i.size = 1) (hby : i.bytes = 1) (hzs : z.cells.size = 1)
    (v : Value) (l : List UInt8) (hs : a.eval s = v) (hown : OwnM w base e v l) (ad : Addr) (c : Nat) (b : UInt8) (hx : a.eval x = .slice (some ad) 1 c) (hcell : w.cell? (ad.add 0) = some (.int .u8 (b.toNat : Int))) (hl : l.length ≤ 1000000) (hbase : base ≤ w.heap.size)
    (h : ∀ v' w', OwnM w' base e v' (l ++ [b]) → w.grownBy w' v.ownBlock → (v'.ownBlock = v.ownBlock ∨ ∃ k, v'.ownBlock = some k ∧ w.heap.size ≤ k) → wpList P ops Q rest (a.put o.dst v') w') : wpList P ops Q (o :: rest) a w := by
  refine wpList_plain hgd fun K hK => ?_
  obtain ⟨v', w', hr, h2, h3, h4⟩ := OwnM.append (P := P) w base t o.type e i z ht hi hz hsize hby hzs v l hown ad c b hcell hl hbase
  unfold Oper.wp execOp
  simp only [ho, resolve, invoke, builtin, Sem.run_bind, Sem.run_pure, Result.andThen_ok, List.map_toArray, List.map_cons, List.map_nil, hs, hx, hr]
  exact hK _ _ (h v' w' h2 h3 h4)
end Go.Proofs.Ytggdjiijcoklgaa
/- PLAIN: frames on a wire over lists of bytes: the check, the escapes, what a wire hears; nothing of the program. -/
namespace Go.Proofs.Ytggdjiijcoklgaa

def fcsStep (x : Nat) : Nat := if x % 2 = 1 then (x / 2) ^^^ 33800 else x / 2
def fcsSteps : Nat → Nat → Nat
  | 0, x => x
  | n + 1, x => fcsStep (fcsSteps n x)
def fcsB (r b : Nat) : Nat := fcsSteps 8 (r ^^^ b)
def fcsR (r : Nat) (l : List UInt8) : Nat := l.foldl (fun r c => fcsB r c.toNat) r
def fcsL (l : List UInt8) : Nat := 65535 - fcsR 65535 l
theorem xor_lt16 {a b : Nat} (ha : a < 65536) (hb : b < 65536) : a ^^^ b < 65536 := Nat.xor_lt_two_pow (n := 16) ha hb
theorem fcsStep_lt {x : Nat} (h : x < 65536) : fcsStep x < 65536 := by
  unfold fcsStep
  split
  · exact xor_lt16 (by omega) (by decide)
  · omega
theorem fcsSteps_lt (n : Nat) {x : Nat} (h : x < 65536) : fcsSteps n x < 65536 := by
  induction n with
  | zero => exact h
  | succ n ih => exact fcsStep_lt ih
theorem fcsB_lt {r b : Nat} (h : r < 65536) (hb : b < 256) : fcsB r b < 65536 := fcsSteps_lt 8 (xor_lt16 h (by omega))
theorem fcsR_lt (l : List UInt8) : ∀ {r : Nat}, r < 65536 → fcsR r l < 65536 := by
  induction l with
  | nil => intro r h; exact h
  | cons c l ih => intro r h; exact ih (fcsB_lt h c.toNat_lt)
theorem fcsR_snoc (r : Nat) (l : List UInt8) (c : UInt8) : fcsR r (l ++ [c]) = fcsB (fcsR r l) c.toNat := by
  simp [fcsR, List.foldl_append]
theorem fcsL_lt (l : List UInt8) : fcsL l < 65536 := by unfold fcsL; omega

def checkL (l : List UInt8) : List UInt8 := [UInt8.ofNat (fcsL l % 256), UInt8.ofNat (fcsL l / 256)]
theorem checkL_length (l : List UInt8) : (checkL l).length = 2 := rfl
def esc1 (c : UInt8) : List UInt8 := if c = 126 ∨ c = 125 then [125, c ^^^ 32] else [c]
def escL (l : List UInt8) : List UInt8 := l.flatMap esc1
theorem escL_nil : escL [] = [] := rfl
theorem escL_cons (c : UInt8) (l : List UInt8) : escL (c :: l) = esc1 c ++ escL l := by simp [escL]
theorem escL_append (l m : List UInt8) : escL (l ++ m) = escL l ++ escL m := by simp [escL]
theorem escL_snoc (l : List UInt8) (c : UInt8) : escL (l ++ [c]) = escL l ++ esc1 c := by simp [escL]
theorem esc1_length (c : UInt8) : 1 ≤ (esc1 c).length ∧ (esc1 c).length ≤ 2 := by unfold esc1; split <;> simp
theorem escL_length (l : List UInt8) : l.length ≤ (escL l).length ∧ (escL l).length ≤ 2 * l.length := by
  induction l with
  | nil => simp [escL]
  | cons c l ih => have := esc1_length c; rw [escL_cons, List.length_append, List.length_cons]; omega
def frameL (l : List UInt8) : List UInt8 := 126 :: (escL l ++ [126])
theorem frameL_length (l : List UInt8) : (frameL l).length = (escL l).length + 2 := by simp [frameL]
def unescL : List UInt8 → List UInt8
  | [] => []
  | [c] => [c]
  | c :: d :: l => if c = 125 then (d ^^^ 32) :: unescL l else c :: unescL (d :: l)
theorem turn_twice (c : UInt8) : c ^^^ 32 ^^^ 32 = c := by
  rw [UInt8.xor_assoc, UInt8.xor_self, UInt8.xor_zero]
theorem unescL_plain (c : UInt8) (l : List UInt8) (h : c ≠ 125) : unescL (c :: l) = c :: unescL l := by
  cases l with
  | nil => rfl
  | cons d l => rw [unescL, if_neg h]
theorem unescL_turned (d : UInt8) (l : List UInt8) : unescL (125 :: d :: l) = (d ^^^ 32) :: unescL l := by rw [unescL, if_pos rfl]
theorem unesc_esc (l : List UInt8) : unescL (escL l) = l := by
  induction l with
  | nil => rfl
  | cons c l ih =>
    rw [escL_cons]
    unfold esc1
    split
    · rw [List.cons_append, List.cons_append, List.nil_append, unescL_turned, ih, turn_twice]
    · rename_i h
      rw [List.cons_append, List.nil_append, unescL_plain c _ (fun e => h (.inr e)), ih]
/-- what stands between the first and the last byte -/
def innerL (t : List UInt8) : List UInt8 := (t.drop 1).take (t.length - 2)
theorem inner_frame (l : List UInt8) : innerL (frameL l) = escL l := by
  unfold innerL
  rw [frameL_length]
  show List.take _ (escL l ++ [126]) = _
  exact List.take_left' (by omega)

/-- the frame of a body -/
def frameT (b : List UInt8) : List UInt8 := if b.length < 1 ∨ 60 < b.length then [] else frameL (b ++ checkL b)
/-- what is told of a frame: the body, the code -/
def readL (t : List UInt8) : List UInt8 × Int :=
  if 8000 < t.length then ([], 2)
  else if (unescL (innerL t)).length < 3 ∨ 62 < (unescL (innerL t)).length ∨ frameL (unescL (innerL t)) ≠ t then ([], 3)
  else if checkL ((unescL (innerL t)).take ((unescL (innerL t)).length - 2)) ≠ (unescL (innerL t)).drop ((unescL (innerL t)).length - 2) then ([], 5)
  else ((unescL (innerL t)).take ((unescL (innerL t)).length - 2), 0)
theorem frameT_length (b : List UInt8) : (frameT b).length ≤ 126 := by
  unfold frameT
  split
  · simp
  · have := escL_length (b ++ checkL b)
    rw [frameL_length]
    simp only [List.length_append, checkL_length] at this
    omega
theorem read_frame (b : List UInt8) (h1 : 1 ≤ b.length) (h2 : b.length ≤ 60) : readL (frameT b) = (b, 0) := by
  have hl := frameT_length b
  have e : frameT b = frameL (b ++ checkL b) := by unfold frameT; rw [if_neg (by omega)]
  have e2 : unescL (innerL (frameT b)) = b ++ checkL b := by rw [e, inner_frame, unesc_esc]
  unfold readL
  rw [if_neg (by omega), e2]
  have e3 : (b ++ checkL b).length = b.length + 2 := by rw [List.length_append, checkL_length]
  rw [e3, if_neg (by rw [← e]; simp only [ne_eq, not_true_eq_false, or_false]; omega), Nat.add_sub_cancel, List.take_left, List.drop_left, if_neg (by simp)]
theorem frame_read {t x : List UInt8} (h : readL t = (x, 0)) : frameT x = t := by
  unfold readL at h
  split at h
  · exact absurd (congrArg Prod.snd h) (by simp)
  · split at h
    · exact absurd (congrArg Prod.snd h) (by simp)
    · rename_i h1 h2
      split at h
      · exact absurd (congrArg Prod.snd h) (by simp)
      · rename_i h3
        have hx := congrArg Prod.fst h
        simp only at hx
        simp only [ne_eq, not_or, Decidable.not_not] at h2 h3
        generalize unescL (innerL t) = p at h2 h3 hx
        have hlen : x.length = p.length - 2 := by rw [← hx, List.length_take]; omega
        unfold frameT
        rw [if_neg (by omega)]
        have : x ++ checkL x = p := by rw [← hx, h3, List.take_append_drop]
        rw [this]
        exact h2.2.2

/-- what a wire is -/
structure Wr where
  inn : Bool
  esc : Bool
  bad : Bool
  buf : List UInt8
def Wr.right (w : Wr) : Bool := if !w.inn || w.bad then w.buf.isEmpty && (w.inn || !w.esc && !w.bad) else w.buf.length ≤ 62
def Wr.heard (w : Wr) : List UInt8 :=
  if w.inn = true ∧ w.esc = false ∧ w.bad = false ∧ 3 ≤ w.buf.length ∧ checkL (w.buf.take (w.buf.length - 2)) = w.buf.drop (w.buf.length - 2) then w.buf.take (w.buf.length - 2) else []
/-- a wire behind a byte -/
def Wr.next (w : Wr) (c : UInt8) : Wr :=
  if c = 126 then ⟨true, false, false, []⟩
  else if w.inn = false ∨ w.bad = true then w
  else if c = 125 ∧ w.esc = false then ⟨w.inn, true, w.bad, w.buf⟩
  else if 62 ≤ w.buf.length then ⟨true, false, true, []⟩
  else ⟨w.inn, false, w.bad, w.buf ++ [if w.esc then c ^^^ 32 else c]⟩
/-- what is heard by a byte -/
def Wr.hears (w : Wr) (c : UInt8) : List (List UInt8) := if c = 126 ∧ w.heard ≠ [] then [w.heard] else []
def Wr.feed (w : Wr) : List UInt8 → Wr
  | [] => w
  | c :: l => (w.next c).feed l
def Wr.feeds (w : Wr) : List UInt8 → List (List UInt8)
  | [] => []
  | c :: l => w.hears c ++ (w.next c).feeds l
theorem Wr.feed_append (l m : List UInt8) : ∀ w : Wr, w.feed (l ++ m) = (w.feed l).feed m := by
  induction l with
  | nil => intro w; rfl
  | cons c l ih => intro w; exact ih _
theorem Wr.feeds_append (l m : List UInt8) : ∀ w : Wr, w.feeds (l ++ m) = w.feeds l ++ (w.feed l).feeds m := by
  induction l with
  | nil => intro w; rfl
  | cons c l ih => intro w; show _ ++ (w.next c).feeds (l ++ m) = _; rw [ih, ← List.append_assoc]; rfl
theorem Wr.feed_snoc (w : Wr) (l : List UInt8) (c : UInt8) : w.feed (l ++ [c]) = (w.feed l).next c := Wr.feed_append l [c] w
theorem Wr.feeds_snoc (w : Wr) (l : List UInt8) (c : UInt8) : w.feeds (l ++ [c]) = w.feeds l ++ (w.feed l).hears c := by
  rw [Wr.feeds_append]; show _ ++ (_ ++ []) = _; rw [List.append_nil]
theorem Wr.next_right (w : Wr) (c : UInt8) (h : w.right = true) : (w.next c).right = true := by
  unfold Wr.next
  split
  · simp [Wr.right]
  · split
    · exact h
    · rename_i h1 h2
      simp only [not_or, Bool.not_eq_false, Bool.not_eq_true] at h2
      have hb : w.buf.length ≤ 62 := by simpa [Wr.right, h2.1, h2.2] using h
      split
      · simpa [Wr.right, h2.1, h2.2] using hb
      · split
        · simp [Wr.right]
        · simp [Wr.right, h2.1, h2.2]; omega
theorem Wr.feed_right (l : List UInt8) : ∀ w : Wr, w.right = true → (w.feed l).right = true := by
  induction l with
  | nil => intro w h; exact h
  | cons c l ih => intro w h; exact ih _ (Wr.next_right w c h)
/-- a wire that is in hears bytes that stand escaped -/
theorem Wr.feed_esc (l : List UInt8) : ∀ b : List UInt8, b.length + l.length ≤ 62 → Wr.feed ⟨true, false, false, b⟩ (escL l) = ⟨true, false, false, b ++ l⟩ ∧ Wr.feeds ⟨true, false, false, b⟩ (escL l) = [] := by
  induction l with
  | nil => intro b _; exact ⟨by simp [escL, Wr.feed], rfl⟩
  | cons c l ih =>
    intro b hb
    rw [List.length_cons] at hb
    have key : Wr.feed ⟨true, false, false, b⟩ (esc1 c) = ⟨true, false, false, b ++ [c]⟩ ∧ Wr.feeds ⟨true, false, false, b⟩ (esc1 c) = [] := by
      unfold esc1
      split
      · rename_i h
        have h126 : c ^^^ 32 ≠ 126 := by rcases h with rfl | rfl <;> decide
        have e1 : Wr.next ⟨true, false, false, b⟩ 125 = ⟨true, true, false, b⟩ := by simp [Wr.next]
        have e2 : Wr.next ⟨true, true, false, b⟩ (c ^^^ 32) = ⟨true, false, false, b ++ [c]⟩ := by
          unfold Wr.next
          rw [if_neg h126, if_neg (by simp), if_neg (by simp), if_neg (by simp only; omega)]
          simp [turn_twice]
        constructor
        · show Wr.next (Wr.next _ _) _ = _; rw [e1, e2]
        · show Wr.hears _ _ ++ (Wr.hears (Wr.next _ _) _ ++ []) = _; simp [Wr.hears, h126]
      · rename_i h
        have h1 : c ≠ 126 := fun e => h (.inl e)
        have h2 : c ≠ 125 := fun e => h (.inr e)
        constructor
        · show Wr.next _ _ = _
          unfold Wr.next
          rw [if_neg h1, if_neg (by simp), if_neg (by simp [h2]), if_neg (by simp only; omega)]
          simp
        · show Wr.hears _ _ ++ [] = _; simp [Wr.hears, h1]
    obtain ⟨i1, i2⟩ := ih (b ++ [c]) (by simp; omega)
    rw [escL_cons, Wr.feed_append, Wr.feeds_append, key.1, key.2, i1, i2]
    simp
/-- a wire hears a body from its frame, whatever it heard ahead -/
theorem Wr.hears_frame (w : Wr) (b : List UInt8) (h1 : 1 ≤ b.length) (h2 : b.length ≤ 60) : w.feeds (frameT b) = w.hears 126 ++ [b] := by
  have e : frameT b = frameL (b ++ checkL b) := by unfold frameT; rw [if_neg (by omega)]
  rw [e]
  show w.hears 126 ++ (w.next 126).feeds (escL (b ++ checkL b) ++ [126]) = _
  have e0 : w.next 126 = ⟨true, false, false, []⟩ := by simp [Wr.next]
  have hlen : (b ++ checkL b).length = b.length + 2 := by rw [List.length_append, checkL_length]
  obtain ⟨k1, k2⟩ := Wr.feed_esc (b ++ checkL b) [] (by rw [hlen]; simp; omega)
  rw [e0, Wr.feeds_snoc, k1, k2, List.nil_append, List.nil_append]
  congr 1
  have hh : Wr.heard ⟨true, false, false, b ++ checkL b⟩ = b := by
    unfold Wr.heard
    simp only [hlen, Nat.add_sub_cancel, List.take_left, List.drop_left]
    rw [if_pos ⟨trivial, trivial, trivial, by omega, trivial⟩]
  unfold Wr.hears
  rw [hh, if_pos ⟨rfl, fun e => by rw [e] at h1; simp at h1⟩]
end Go.Proofs.Ytggdjiijcoklgaa
/- PLAIN: two ways to take escapes back answer the same; nothing of the program. -/
namespace Go.Proofs.Ytggdjiijcoklgaa

def needE (c : UInt8) : Bool := c == 126 || c == 125
theorem needE_iff (c : UInt8) : needE c = true ↔ c = 126 ∨ c = 125 := by simp [needE]
/-- escapes taken back, where they may have been made -/
def unT : List UInt8 → Option (List UInt8)
  | [] => some []
  | [c] => if c = 126 ∨ c = 125 then none else some [c]
  | c :: d :: l => if c = 126 then none else if c = 125 then (if needE (d ^^^ 32) then (unT l).map ((d ^^^ 32) :: ·) else none) else (unT (d :: l)).map (c :: ·)
theorem unT_flag (l : List UInt8) : unT (126 :: l) = none := by
  cases l with
  | nil => rfl
  | cons d l => rw [unT, if_pos rfl]
theorem unT_end : unT [125] = none := rfl
theorem unT_turn (d : UInt8) (l : List UInt8) (h : needE (d ^^^ 32) = true) : unT (125 :: d :: l) = (unT l).map ((d ^^^ 32) :: ·) := by
  rw [unT, if_neg (by decide), if_pos rfl, if_pos h]
theorem unT_no (d : UInt8) (l : List UInt8) (h : needE (d ^^^ 32) = false) : unT (125 :: d :: l) = none := by
  rw [unT, if_neg (by decide), if_pos rfl, if_neg (by simp [h])]
theorem unT_plain (c : UInt8) (l : List UInt8) (h1 : c ≠ 126) (h2 : c ≠ 125) : unT (c :: l) = (unT l).map (c :: ·) := by
  cases l with
  | nil => show (if _ then _ else _) = _; rw [if_neg (by simp [h1, h2])]; rfl
  | cons d l => rw [unT, if_neg h1, if_neg h2]
theorem unT_esc (p : List UInt8) : unT (escL p) = some p := by
  induction p with
  | nil => rfl
  | cons c l ih =>
    rw [escL_cons]
    unfold esc1
    split
    · rename_i h
      rw [List.cons_append, List.cons_append, List.nil_append, unT_turn _ _ (by rw [turn_twice]; exact (needE_iff c).2 h), ih, turn_twice]; rfl
    · rename_i h
      rw [List.cons_append, List.nil_append, unT_plain c _ (fun e => h (.inl e)) (fun e => h (.inr e)), ih]; rfl
theorem esc_unT : ∀ (l p : List UInt8), unT l = some p → escL p = l := by
  intro l
  induction l using unT.induct with
  | case1 => intro p h; rw [unT] at h; cases h; rfl
  | case2 c h0 => intro p h; rw [unT, if_pos h0] at h; cases h
  | case3 c h0 => intro p h; rw [unT, if_neg h0] at h; cases h; simp [escL, esc1, h0]
  | case4 d l => intro p h; rw [unT, if_pos rfl] at h; cases h
  | case5 d l h2 h1 ih =>
    intro p h
    rw [unT, if_neg h1, if_pos rfl, if_pos h2] at h
    cases hq : unT l with
    | none => rw [hq] at h; cases h
    | some q =>
      rw [hq] at h
      cases h
      rw [escL_cons, ih q hq]
      unfold esc1
      rw [if_pos ((needE_iff _).1 h2), turn_twice]; rfl
  | case6 d l h2 h1 => intro p h; rw [unT, if_neg h1, if_pos rfl, if_neg h2] at h; cases h
  | case7 c d l h1 h2 ih =>
    intro p h
    rw [unT, if_neg h1, if_neg h2] at h
    cases hq : unT (d :: l) with
    | none => rw [hq] at h; cases h
    | some q =>
      rw [hq] at h
      cases h
      rw [escL_cons, ih q hq]
      unfold esc1
      rw [if_neg (by simp [h1, h2])]; rfl
/-- a text that opens and ends with a flag -/
theorem flags_inner (t : List UInt8) (h1 : t.head? = some 126) (h2 : t.getLast? = some 126) (h3 : 2 ≤ t.length) : t = 126 :: (innerL t ++ [126]) := by
  cases t with
  | nil => simp at h1
  | cons c l =>
    simp at h1
    subst h1
    have hl : l ≠ [] := by intro e; rw [e] at h3; simp at h3
    have h4 : l.getLast? = some 126 := by rw [← h2]; exact (List.getLast?_cons_of_ne_nil hl).symm
    congr 1
    have e : innerL (126 :: l) = l.dropLast := by
      unfold innerL; rw [List.dropLast_eq_take]; simp
    rw [e]
    have h5 : l.getLast hl = 126 := by rw [List.getLast?_eq_some_getLast hl] at h4; exact Option.some.inj h4
    have := List.dropLast_concat_getLast hl
    rw [h5] at this
    exact this.symm
theorem frame_flags (p : List UInt8) : (frameL p).head? = some 126 ∧ (frameL p).getLast? = some 126 ∧ 2 ≤ (frameL p).length := by
  refine ⟨rfl, ?_, by rw [frameL_length]; omega⟩
  show (126 :: (escL p ++ [126])).getLast? = _
  rw [← List.cons_append, List.getLast?_append]
  rfl
/-- what the program asks of a frame -/
def readP (t : List UInt8) : List UInt8 × Int :=
  if 8000 < t.length then ([], 2)
  else if t.length < 2 ∨ t.head? ≠ some 126 ∨ t.getLast? ≠ some 126 then ([], 3)
  else match unT (innerL t) with
    | none => ([], 3)
    | some p => if p.length < 3 ∨ 62 < p.length then ([], 3) else if checkL (p.take (p.length - 2)) ≠ p.drop (p.length - 2) then ([], 5) else (p.take (p.length - 2), 0)
theorem readP_eq (t : List UInt8) : readP t = readL t := by
  unfold readP readL
  split
  · rfl
  · by_cases h : t.length < 2 ∨ t.head? ≠ some 126 ∨ t.getLast? ≠ some 126
    · rw [if_pos h, if_pos]
      right; right
      intro e
      have hf := frame_flags (unescL (innerL t))
      rw [e] at hf
      rcases h with h | h | h
      · omega
      · exact h hf.1
      · exact h hf.2.1
    · rw [if_neg h]
      simp only [not_or, Nat.not_lt, ne_eq, Decidable.not_not] at h
      have hi := flags_inner t h.2.1 h.2.2 h.1
      cases hq : unT (innerL t) with
      | none =>
        rw [if_pos]
        right; right
        intro e
        have e2 : innerL t = escL (unescL (innerL t)) := by rw [← inner_frame, e]
        rw [e2, unT_esc] at hq
        cases hq
      | some p =>
        have he := esc_unT _ _ hq
        have e2 : unescL (innerL t) = p := by rw [← he, unesc_esc]
        have e3 : frameL p = t := by unfold frameL; rw [he]; exact hi.symm
        rw [e2, e3]
        simp
end Go.Proofs.Ytggdjiijcoklgaa
