/- WHAT IS OPEN GROWS A TICK OLDER, the program's. Written by mkgrow.py. -/
import Derived.Test.YtghchcipobcpjaaQtFinW
namespace Go.Proofs.Ytghchcipobcpjaa
open Go.RowKit
set_option linter.unusedVariables false
set_option linter.unusedSimpArgs false

def growW (x : Wt) : Wt := if x.g + 1 < 3 then ⟨x.i, x.t, x.r, x.g + 1⟩ else if x.r < 3 then ⟨x.i, x.t, x.r + 1, 0⟩ else ⟨x.i, x.t, x.r, x.g + 1⟩
def sendsB (x : Wt) : Bool := !decide (x.g + 1 < 3) && decide (x.r < 3)
def overB (x : Wt) : Bool := !decide (x.g + 1 < 3) && !decide (x.r < 3)
def sentW (l : List Wt) : List ByteArray := (l.filter sendsB).map fun x => letB x.i x.t
def overW (l : List Wt) : List Int := (l.filter overB).map Wt.i
theorem growW_i (x : Wt) : (growW x).i = x.i := by unfold growW; split <;> (try split) <;> rfl
theorem growW_t (x : Wt) : (growW x).t = x.t := by unfold growW; split <;> (try split) <;> rfl
theorem sentW_take (l : List Wt) (k : Nat) (h : k < l.length) : sentW (l.take (k + 1)) = sentW (l.take k) ++ (if sendsB l[k] then [letB l[k].i l[k].t] else []) := by
  unfold sentW
  rw [List.take_succ_eq_append_getElem h, List.filter_append, List.map_append]
  by_cases hb : sendsB l[k] = true
  · rw [if_pos hb]; simp [hb]
  · rw [if_neg hb]; simp [hb]
theorem overW_take (l : List Wt) (k : Nat) (h : k < l.length) : overW (l.take (k + 1)) = overW (l.take k) ++ (if overB l[k] then [l[k].i] else []) := by
  unfold overW
  rw [List.take_succ_eq_append_getElem h, List.filter_append, List.map_append]
  by_cases hb : overB l[k] = true
  · rw [if_pos hb]; simp [hb]
  · rw [if_neg hb]; simp [hb]
theorem grown_step (l : List Wt) (k : Nat) (h : k < l.length) : ((l.take k).map growW ++ l.drop k).set k (growW l[k]) = ((l.take (k + 1)).map growW ++ l.drop (k + 1)) := by
  rw [List.take_succ_eq_append_getElem h, List.map_append, List.append_assoc, List.set_append_right _ _ (by rw [List.length_map, List.length_take]; omega)]
  congr 1
  rw [List.length_map, List.length_take, show k - min k l.length = 0 by omega, List.drop_eq_getElem_cons h]
  rfl
theorem grown_at (l : List Wt) (k : Nat) (h : k < l.length) : ∃ h', ((l.take k).map growW ++ l.drop k)[k]'h' = l[k] := by
  have hl : ((l.take k).map growW ++ l.drop k).length = l.length := by simp; omega
  refine ⟨by omega, ?_⟩
  rw [List.getElem_append_right (by simp; omega)]
  simp [Nat.min_eq_left (Nat.le_of_lt h)]
theorem grown_len (l : List Wt) (k : Nat) (h : k ≤ l.length) : ((l.take k).map growW ++ l.drop k).length = l.length := by simp; omega
/-- rows of texts and of numbers, as rows of records of one cell -/
def txC (b : ByteArray) : List Value := [.string b]
def nuC (n : Int) : List Value := [.int .i64 n]
abbrev OwnKS (w : World) (base : Nat) (v : Value) (l : List ByteArray) : Prop := OwnK 1 9 txC w base v l
abbrev OwnKI (w : World) (base : Nat) (v : Value) (l : List Int) : Prop := OwnK 1 2 nuC w base v l
theorem flat_tx (l : List ByteArray) : l.flatMap txC = l.map Value.string := by
  induction l with
  | nil => rfl
  | cons a l ih => rw [List.flatMap_cons, List.map_cons, ih]; rfl
theorem flat_nu (l : List Int) : l.flatMap nuC = l.map (Value.int .i64) := by
  induction l with
  | nil => rfl
  | cons a l ih => rw [List.flatMap_cons, List.map_cons, ih]; rfl
theorem OwnK.sr {w : World} {base : Nat} {v : Value} {l : List ByteArray} (h : OwnKS w base v l) : OwnSr w base v l := by
  unfold OwnSr
  rw [← flat_tx]
  exact h
theorem OwnK.oi {w : World} {base : Nat} {v : Value} {l : List Int} (h : OwnKI w base v l) : OwnI w base v l := by
  unfold OwnI
  rw [← flat_nu]
  exact h
theorem txC_len (x : ByteArray) : (txC x).length = 1 := rfl
theorem nuC_len (x : Int) : (nuC x).length = 1 := rfl
theorem txC_one (x : ByteArray) : ∀ u ∈ txC x, u.oneCell' = true := by intro u hu; simp [txC] at hu; rcases hu with rfl; rfl
theorem nuC_one (x : Int) : ∀ u ∈ nuC x, u.oneCell' = true := by intro u hu; simp [nuC] at hu; rcases hu with rfl; rfl
theorem infoTx : (Try.prog.info? 9).map (fun i => (i.zero, i.size, i.bytes)) = some (some (.string ⟨#[]⟩), 1, 16) := by kernel_rfl
theorem infoNu : (Try.prog.info? 2).map (fun i => (i.zero, i.size, i.bytes)) = some (some (.int .i64 0), 1, 8) := by kernel_rfl
theorem tyTx : ∃ i, RecTy 1 16 9 31 i (.string ⟨#[]⟩) := by
  obtain ⟨i0, hi, hz0, hz1, hz2⟩ := info_parts infoTx
  exact ⟨i0, Try.underlying31, hi, hz0, hz1, hz2, rfl, by decide, by decide⟩
theorem tyNu : ∃ i, RecTy 1 8 2 70 i (.int .i64 0) := by
  obtain ⟨i0, hi, hz0, hz1, hz2⟩ := info_parts infoNu
  exact ⟨i0, Try.underlying70, hi, hz0, hz1, hz2, rfl, by decide, by decide⟩
theorem row_oneTx {w : World} {g : Nat} {b : ByteArray} {fz : Nat × Nat} (h : w.heap[g]? = some (.cells #[.string b] 9 fz)) : RowC 1 txC w (.slice (some ⟨g, 0, none⟩) 1 1) [b] :=
  ⟨some ⟨g, 0, none⟩, 1, rfl, fun k hk => ⟨g, 0, rfl, (Array.getElem?_eq_some_iff.1 h).1, fun j v hv => by
    obtain rfl : k = 0 := by simpa using hk
    match j, hv with
    | 0, hv => cases hv; simp [World.cell?, h]
    | j + 1, hv => simp [txC] at hv⟩⟩
theorem row_oneNu {w : World} {g : Nat} {b : Int} {fz : Nat × Nat} (h : w.heap[g]? = some (.cells #[.int .i64 b] 2 fz)) : RowC 1 nuC w (.slice (some ⟨g, 0, none⟩) 1 1) [b] :=
  ⟨some ⟨g, 0, none⟩, 1, rfl, fun k hk => ⟨g, 0, rfl, (Array.getElem?_eq_some_iff.1 h).1, fun j v hv => by
    obtain rfl : k = 0 := by simpa using hk
    match j, hv with
    | 0, hv => cases hv; simp [World.cell?, h]
    | j + 1, hv => simp [nuC] at hv⟩⟩
theorem own_apart {α β : Type} {m n : Nat} {t1 t2 : TypeId} {c1 : α → List Value} {c2 : β → List Value} {w : World} {b1 b2 : Nat} {u v : Value} {l : List α} {k : List β} (h1 : OwnK m t1 c1 w b1 u l) (h2 : OwnK n t2 c2 w b2 v k) (hne : t1 ≠ t2) : ∀ a b, u.ownBlock = some a → v.ownBlock = some b → a ≠ b := by
  intro a b ha hb e
  subst e
  rcases h2.2 with ⟨rfl, _⟩ | ⟨g', cap', cur', rfl, _, q', _⟩
  · cases hb
  cases hb
  exact box_apart h1 q' hne _ ha rfl
theorem own_cells {W : World} {base G n c : Nat} {L : List Wt} (h : OwnKW W base (.slice (some ⟨G, 0, none⟩) n c) L) (k : Nat) (hk : k < L.length) (y : Wt) (e : L[k] = y) :
    W.cell? ⟨G, k * 4, none⟩ = some (.int .i64 y.i) ∧ W.cell? ⟨G, k * 4 + 1, none⟩ = some (.string y.t) ∧ W.cell? ⟨G, k * 4 + 2, none⟩ = some (.int .i64 y.r) ∧ W.cell? ⟨G, k * 4 + 3, none⟩ = some (.int .i64 y.g) ∧ (∀ o, W.frozen? ⟨G, o, none⟩ = false) ∧ G < W.heap.size := by
  obtain ⟨_, _, _, _, cur, hcur, _, hr⟩ := OwnK.ranges wtC_len h
  have q := hr k hk
  rw [e] at q
  exact ⟨by simpa using rcRange_cells q 0 _ rfl, rcRange_cells q 1 _ rfl, rcRange_cells q 2 _ rfl, rcRange_cells q 3 _ rfl, fun o => frozenW hcur o W (Below.refl _ _), (Array.getElem?_eq_some_iff.1 hcur).1⟩
theorem own_cellsE {W : World} {base G n c : Nat} {L : List Wt} (h : OwnKW W base (.slice (some ⟨G, 0, none⟩) n c) L) (k : Nat) {i : Int} {t : ByteArray} (e : ∃ h', (L[k]'h').i = i ∧ (L[k]'h').t = t) :
    W.cell? ⟨G, k * 4, none⟩ = some (.int .i64 i) ∧ W.cell? ⟨G, k * 4 + 1, none⟩ = some (.string t) ∧ True ∧ True ∧ True := by
  obtain ⟨hk, rfl, rfl⟩ := e
  obtain ⟨a, b, _⟩ := own_cells h k hk _ rfl
  exact ⟨a, b, trivial, trivial, trivial⟩
/-- only a row's own block has turned -/
def RowOnly (v : Value) (w w' : World) : Prop := TouchR w w' (fun k => v.ownBlock = some k)
theorem RowOnly.refl (v : Value) (w : World) : RowOnly v w w := ⟨rfl, rfl, rfl, Nat.le_refl _, fun _ _ _ => rfl⟩
theorem RowOnly.set {v : Value} {w w' : World} (h : RowOnly v w w') {G : Nat} (hv : v.ownBlock = some G) (o : Nat) (x : Value) : RowOnly v w (w'.setCell ⟨G, o, none⟩ x) :=
  ⟨h.os, h.tape, h.output, by rw [show (w'.setCell ⟨G, o, none⟩ x).heap.size = w'.heap.size by simp [World.setCell]]; exact h.size, fun k hk hn => (Below.heap_setCell _ _ _ _ (by intro e; exact hn (by rw [hv]; exact congrArg some e.symm))).trans (h.block k hk hn)⟩
theorem RowOnly.below {v : Value} {w a b : World} (h : RowOnly v w a) (hb : Below a.heap.size a b) : RowOnly v w b :=
  ⟨hb.os.trans h.os, hb.tape.trans h.tape, hb.output.trans h.output, Nat.le_trans h.size hb.size, fun k hk hn => (hb.block k (Nat.lt_of_lt_of_le hk h.size)).trans (h.block k hk hn)⟩
theorem RowOnly.grown {v u : Value} {w a b : World} (h : RowOnly v w a) (g : a.grownBy b u.ownBlock) (hu : ∀ k, u.ownBlock = some k → w.heap.size ≤ k) : RowOnly v w b :=
  ⟨g.os.trans h.os, g.tape.trans h.tape, g.output.trans h.output, Nat.le_trans h.size g.size, fun k hk hn => (g.block k (Nat.lt_of_lt_of_le hk h.size) (fun e => by have := hu k e.symm; omega)).trans (h.block k hk hn)⟩
set_option maxRecDepth 100000 in
set_option maxHeartbeats 6400000 in
theorem grow_any (s : Mst) (base M : Nat) (va vd : Value) (w : World) (hl : s.op.length ≤ 1000) (hrg : ∀ x ∈ s.op, x.t.size ≤ 1000 ∧ 0 ≤ x.g ∧ x.g ≤ 2 ∧ 1 ≤ x.r ∧ x.r ≤ 3) (h : OwnBt w base M va vd s) :
    Calls Try.prog 39 #[.pointer (some ⟨M, 0, none⟩)] w fun e w' => ∃ v1 v2, e = .returned (.tuple #[v1, v2]) ∧ OwnKS w' w.heap.size v1 (sentW s.op) ∧ OwnKI w' w.heap.size v2 (overW s.op) ∧ OwnBt w' base M va vd ⟨s.nx, s.op.map growW, s.dn⟩ ∧ Below base w w' := by
  obtain ⟨iT, TT⟩ := tyTx
  obtain ⟨iN, TN⟩ := tyNu
  have HTT : Hid _ := TT
  have HTN : Hid _ := TN
  have HRG : Hid (∀ x ∈ s.op, x.t.size ≤ 1000 ∧ 0 ≤ x.g ∧ x.g ≤ 2 ∧ 1 ≤ x.r ∧ x.r ≤ 3) := hrg
  have HL : Hid (∀ (x : Wt) (W : World), x.t.size ≤ 1000 → Calls Try.prog 57 #[.int .i64 x.i, .string x.t] W fun e w' => e = .returned (.string (letB x.i x.t)) ∧ Below W.heap.size W w') := fun x W hx => letterOf_any x.i x.t W (by unfold maxLen; omega)
  have HB : Hid (OwnBt w base M va vd s) := h
  have hle := h.le
  have hMw := (Array.getElem?_eq_some_iff.1 h.box).1
  have haM : ∀ k, va.ownBlock = some k → k ≠ M := box_apart h.op h.box (by decide)
  have HBX : Hid (∀ W, RowOnly va w W → W.heap[M]? = some (.cells #[va, .int .i64 s.nx, vd] 60 (0, 0))) := fun W hW => (hW.block M hMw (fun e => haM M e rfl)).trans HB.out.box
  have hvb : ∀ k, va.ownBlock = some k → base ≤ k ∧ k < w.heap.size := OwnK.lt h.op
  have HFIN : Hid (∀ W, RowOnly va w W → OwnKW W base va (s.op.map growW) → OwnBt W base M va vd ⟨s.nx, s.op.map growW, s.dn⟩ ∧ Below base w W) := fun W hW hO => ⟨⟨hle, HBX.out W hW, hO, OwnK.keep HB.out.dn fun k hk => hW.block k (OwnK.lt HB.out.dn k hk).2 (fun e => rows_apart HB.out.op HB.out.dn k k e hk rfl)⟩, hW.os, hW.tape, hW.output, by have := hW.size; omega, fun k hk => hW.block k (by omega) (fun e => by have := hvb k e; omega)⟩
  obtain ⟨pa, ca, rfl⟩ := OwnK.shape h.op
  have hp : ∀ k, k < s.op.length → ∃ G, pa = some ⟨G, 0, none⟩ := fun k hk => by
    obtain ⟨G, c, e, _⟩ := ownK_some HB.out.op (by omega)
    cases e
    exact ⟨G, rfl⟩
  have HP : Hid (∀ k, k < s.op.length → ∃ G, pa = some ⟨G, 0, none⟩) := hp
  have HO0 : Hid (OwnKW w base (.slice pa s.op.length ca) s.op) := h.op
  generalize s.op = l at *
  clear h hrg TT TN hp
  have hR0 : Hid (RowOnly (.slice pa l.length ca) w w) := RowOnly.refl _ _
  have b0 := cellW (HBX.out w hR0.out) 0 _ rfl w (Below.refl _ _)
  go_enter Try.func39, Try.ntmps39
  go_wp2
  clear b0
  go_loopw [4, 5, 13] (fun a b i wr => ∃ k : Nat, k ≤ l.length ∧ i = .int .i64 k ∧ Hid (OwnKS wr w.heap.size a (sentW (l.take k))) ∧ Hid (OwnKI wr w.heap.size b (overW (l.take k))) ∧ Hid (OwnKW wr base (.slice pa l.length ca) ((l.take k).map growW ++ l.drop k)) ∧ Hid (RowOnly (.slice pa l.length ca) w wr)) (fun _ _ i _ => l.length - (intOf i).toNat)
  case atStart => exact ⟨0, Nat.zero_le _, rfl, (OwnK.nil _ _ _ _ _ : OwnKS w w.heap.size (.slice none 0 0) []), (OwnK.nil _ _ _ _ _ : OwnKI w w.heap.size (.slice none 0 0) []), (show OwnKW w base (.slice pa l.length ca) l from HO0.out), hR0.out⟩
  case round =>
    obtain ⟨k, hk, rfl, HS, HO, HK, HT⟩ := hrel
    by_cases hlt : k < l.length
    · obtain ⟨G, hG⟩ := HP.out k hlt
      subst hG
      obtain ⟨ps, cs, rfl⟩ := OwnK.shape HS.out
      obtain ⟨po, co, rfl⟩ := OwnK.shape HO.out
      have bx := HBX.out wr HT.out
      have b0 := cellW bx 0 _ rfl wr (Below.refl _ _)
      obtain ⟨hx1, hx2⟩ := grown_at l k hlt
      obtain ⟨z1, z2, z3, z4, cur, hcur, hcs, hrgs⟩ := OwnK.ranges wtC_len HK.out
      have q := hrgs k hx1
      rw [hx2] at q
      have c0 : wr.cell? ⟨G, k * 4, none⟩ = some (.int .i64 l[k].i) := by simpa using rcRange_cells q 0 _ rfl
      have c1 : wr.cell? ⟨G, k * 4 + 1, none⟩ = some (.string l[k].t) := rcRange_cells q 1 _ rfl
      have c2 : wr.cell? ⟨G, k * 4 + 2, none⟩ = some (.int .i64 l[k].r) := rcRange_cells q 2 _ rfl
      have c3 : wr.cell? ⟨G, k * 4 + 3, none⟩ = some (.int .i64 l[k].g) := rcRange_cells q 3 _ rfl
      have fz : ∀ j, wr.frozen? ⟨G, k * 4 + j, none⟩ = false := fun j => frozenW hcur (k * 4 + j) wr (Below.refl _ _)
      have f2 := fz 2
      have f3 := fz 3
      obtain ⟨hzt, hg0, hg2, hr1, hr3⟩ := HRG.out l[k] (List.getElem_mem hlt)
      have hset : ∀ (W : World) (x : Wt) (f : Nat) (u : Value) (Lx : List Wt), Lx.length = l.length → f < 4 → (∀ hx, wtC x = (wtC (Lx[k]'hx)).set f u) → OwnKW W base (.slice (some ⟨G, 0, none⟩) l.length ca) Lx → OwnKW (W.setCell ⟨G, k * 4 + f, none⟩ u) base (.slice (some ⟨G, 0, none⟩) l.length ca) (Lx.set k x) := fun W x f u Lx hLx hf hx ho => OwnK.setf wtC_len ho k (by omega) f hf x u (hx (by omega))
      have HSET : Hid _ := hset
      have HGS : Hid (((l.take k).map growW ++ l.drop k).set k (growW l[k]) = ((l.take (k + 1)).map growW ++ l.drop (k + 1))) := grown_step l k hlt
      have HST : Hid _ := sentW_take l k hlt
      have HOT : Hid _ := overW_take l k hlt
      have HLN : Hid (((l.take k).map growW ++ l.drop k).length = l.length) := grown_len l k hk
      have HX2 : Hid (∃ h', ((l.take k).map growW ++ l.drop k)[k]'h' = l[k]) := ⟨hx1, hx2⟩
      have HLk : Hid (∀ W : World, Calls Try.prog 57 #[.int .i64 l[k].i, .string l[k].t] W fun e w' => e = .returned (.string (letB l[k].i l[k].t)) ∧ Below W.heap.size W w') := fun W => HL.out l[k] W hzt
      have hfarS : ∀ (W : World), OwnKS W w.heap.size (.slice ps (sentW (l.take k)).length cs) (sentW (l.take k)) → ∀ o x, OwnKS (W.setCell ⟨G, o, none⟩ x) w.heap.size (.slice ps (sentW (l.take k)).length cs) (sentW (l.take k)) := fun W hW o x => OwnK.far hW (a := ⟨G, o, none⟩) (fun b hb => by have := OwnK.lt hW b hb; have := hvb G rfl; simp only; omega) x
      have hfarO : ∀ (W : World), OwnKI W w.heap.size (.slice po (overW (l.take k)).length co) (overW (l.take k)) → ∀ o x, OwnKI (W.setCell ⟨G, o, none⟩ x) w.heap.size (.slice po (overW (l.take k)).length co) (overW (l.take k)) := fun W hW o x => OwnK.far hW (a := ⟨G, o, none⟩) (fun b hb => by have := OwnK.lt hW b hb; have := hvb G rfl; simp only; omega) x
      have HFS : Hid _ := hfarS
      have HFO : Hid _ := hfarO
      have hsl : (sentW (l.take k)).length ≤ 1000 := by
        unfold sentW
        rw [List.length_map]
        exact Nat.le_trans (List.length_filter_le _ _) (by rw [List.length_take]; omega)
      have hol : (overW (l.take k)).length ≤ 1000 := by
        unfold overW
        rw [List.length_map]
        exact Nat.le_trans (List.length_filter_le _ _) (by rw [List.length_take]; omega)
      clear hcur hcs hrgs cur z1 z2 z3 z4 q hx1 hx2 fz bx hset hfarS hfarO
      generalize sentW (l.take k) = S at *
      generalize overW (l.take k) = O at *
      generalize hxk : l[k] = x at *
      clear hxk
      have HO1 : Hid (OwnKW (wr.setCell ⟨G, k * 4 + 3, none⟩ (.int .i64 (x.g + 1))) base (.slice (some ⟨G, 0, none⟩) l.length ca) (((l.take k).map growW ++ l.drop k).set k ⟨x.i, x.t, x.r, x.g + 1⟩)) := HSET.out wr ⟨x.i, x.t, x.r, x.g + 1⟩ 3 (.int .i64 (x.g + 1)) ((l.take k).map growW ++ l.drop k) HLN.out (by omega) (fun hx => by
        obtain ⟨h', e⟩ := HX2.out
        rw [e]
        rfl) HK.out
      have HS1 : Hid (OwnKS (wr.setCell ⟨G, k * 4 + 3, none⟩ (.int .i64 (x.g + 1))) w.heap.size (.slice ps S.length cs) S) := HFS.out wr HS.out _ _
      have HN1 : Hid (OwnKI (wr.setCell ⟨G, k * 4 + 3, none⟩ (.int .i64 (x.g + 1))) w.heap.size (.slice po O.length co) O) := HFO.out wr HO.out _ _
      have HT1 : Hid (RowOnly (.slice (some ⟨G, 0, none⟩) l.length ca) w (wr.setCell ⟨G, k * 4 + 3, none⟩ (.int .i64 (x.g + 1)))) := HT.out.set rfl _ _
      have hln := HLN.out
      obtain ⟨d0, d1, d2, d3, fz, hGz⟩ := own_cells HO1.out k (by rw [List.length_set, hln]; exact hlt) ⟨x.i, x.t, x.r, x.g + 1⟩ (by rw [List.getElem_set_self])
      dsimp only at d0 d1 d2 d3
      have g2 := fz (k * 4 + 2)
      have g3 := fz (k * 4 + 3)
      have HFZ : Hid (∀ o, (wr.setCell ⟨G, k * 4 + 3, none⟩ (.int .i64 (x.g + 1))).frozen? ⟨G, o, none⟩ = false) := fz
      clear fz hln hGz
      go_upto_region 9 with fail
      generalize (wr.setCell ⟨G, k * 4 + 3, none⟩ (.int .i64 (x.g + 1))) = W1 at *
      clear c0 c1 c2 c3 f2 f3 b0
      by_cases h1 : x.g + 1 < 3
      · have hgr : growW x = ⟨x.i, x.t, x.r, x.g + 1⟩ := by unfold growW; rw [if_pos h1]
        have hsb : sendsB x = false := by unfold sendsB; rw [decide_eq_true h1]; rfl
        have hob : overB x = false := by unfold overB; rw [decide_eq_true h1]; rfl
        have HR : Hid (OwnKS W1 w.heap.size (.slice ps S.length cs) (sentW (l.take (k + 1))) ∧ OwnKI W1 w.heap.size (.slice po O.length co) (overW (l.take (k + 1))) ∧ OwnKW W1 base (.slice (some ⟨G, 0, none⟩) l.length ca) ((l.take (k + 1)).map growW ++ l.drop (k + 1))) := by
          rw [HST.out, HOT.out, ← HGS.out, hgr, hsb, hob]
          simp only [Bool.false_eq_true, if_false, List.append_nil]
          exact ⟨HS1.out, HN1.out, HO1.out⟩
        clear hgr hsb hob
        go_wp2
        go_roundw
        case rel => exact ⟨k + 1, by omega, by go_num, HR.out.1, HR.out.2.1, HR.out.2.2, HT1.out⟩
        case measure => simp [intOf]; omega
      by_cases h2 : x.r < 3
      · have hgr : growW x = ⟨x.i, x.t, x.r + 1, 0⟩ := by unfold growW; rw [if_neg h1, if_pos h2]
        have hsb : sendsB x = true := by unfold sendsB; rw [decide_eq_false h1, decide_eq_true h2]; rfl
        have hob : overB x = false := by unfold overB; rw [decide_eq_false h1, decide_eq_true h2]; rfl
        have HO2 : Hid (OwnKW (W1.setCell ⟨G, k * 4 + 2, none⟩ (.int .i64 (x.r + 1))) base (.slice (some ⟨G, 0, none⟩) l.length ca) ((((l.take k).map growW ++ l.drop k).set k ⟨x.i, x.t, x.r, x.g + 1⟩).set k ⟨x.i, x.t, x.r + 1, x.g + 1⟩)) := HSET.out W1 ⟨x.i, x.t, x.r + 1, x.g + 1⟩ 2 (.int .i64 (x.r + 1)) _ (by rw [List.length_set]; exact HLN.out) (by omega) (fun hx => by
          rw [List.getElem_set_self]
          rfl) HO1.out
        have HO3 : Hid (OwnKW ((W1.setCell ⟨G, k * 4 + 2, none⟩ (.int .i64 (x.r + 1))).setCell ⟨G, k * 4 + 3, none⟩ (.int .i64 0)) base (.slice (some ⟨G, 0, none⟩) l.length ca) ((l.take (k + 1)).map growW ++ l.drop (k + 1))) := by
          rw [← HGS.out, hgr]
          have := HSET.out _ ⟨x.i, x.t, x.r + 1, 0⟩ 3 (.int .i64 0) _ (by rw [List.length_set, List.length_set]; exact HLN.out) (by omega) (fun hx => by
            rw [List.getElem_set_self]
            rfl) HO2.out
          rw [List.set_set, List.set_set] at this
          exact this
        have HS3 : Hid (OwnKS ((W1.setCell ⟨G, k * 4 + 2, none⟩ (.int .i64 (x.r + 1))).setCell ⟨G, k * 4 + 3, none⟩ (.int .i64 0)) w.heap.size (.slice ps S.length cs) S) := HFS.out _ (HFS.out W1 HS1.out _ _) _ _
        have HN3 : Hid (OwnKI ((W1.setCell ⟨G, k * 4 + 2, none⟩ (.int .i64 (x.r + 1))).setCell ⟨G, k * 4 + 3, none⟩ (.int .i64 0)) w.heap.size (.slice po O.length co) (overW (l.take (k + 1)))) := by
          rw [HOT.out, hob]
          simp only [Bool.false_eq_true, if_false, List.append_nil]
          exact HFO.out _ (HFO.out W1 HN1.out _ _) _ _
        have HT3 : Hid (RowOnly (.slice (some ⟨G, 0, none⟩) l.length ca) w ((W1.setCell ⟨G, k * 4 + 2, none⟩ (.int .i64 (x.r + 1))).setCell ⟨G, k * 4 + 3, none⟩ (.int .i64 0))) := (HT1.out.set rfl _ _).set rfl _ _
        have HSTe : Hid (sentW (l.take (k + 1)) = S ++ [letB x.i x.t]) := by rw [HST.out, hsb]; rfl
        obtain ⟨e0, e1, e2, e3, fz, hGz⟩ := own_cells HO2.out k (by rw [List.length_set, List.length_set, HLN.out]; exact hlt) ⟨x.i, x.t, x.r + 1, x.g + 1⟩ (by rw [List.getElem_set_self])
        dsimp only at e0 e1 e2 e3
        have k3 := fz (k * 4 + 3)
        have hxk : ∃ h', ((l.take (k + 1)).map growW ++ l.drop (k + 1))[k]'h' = growW x := by
          have e := HGS.out
          have hl' : k < (((l.take k).map growW ++ l.drop k).set k (growW x)).length := by rw [List.length_set, HLN.out]; exact hlt
          refine ⟨by rw [← e]; exact hl', ?_⟩
          have : (((l.take k).map growW ++ l.drop k).set k (growW x))[k]'hl' = growW x := List.getElem_set_self _
          simpa only [e] using this
        obtain ⟨hk1, hk2⟩ := hxk
        have HKX : Hid (∃ h', (((l.take (k + 1)).map growW ++ l.drop (k + 1))[k]'h').i = x.i ∧ (((l.take (k + 1)).map growW ++ l.drop (k + 1))[k]'h').t = x.t) := ⟨hk1, by rw [hk2]; exact growW_i x, by rw [hk2]; exact growW_t x⟩
        obtain ⟨p0, p1, p2, p3, fy, hGy⟩ := own_cells HO3.out k hk1 ⟨x.i, x.t, x.r + 1, 0⟩ (by rw [hk2, hgr])
        dsimp only at p0 p1 p2 p3
        clear fz fy hgr hsb hob hk2 hk1 p2 p3 hGz HFZ
        have hzz : ((W1.setCell ⟨G, k * 4 + 2, none⟩ (.int .i64 (x.r + 1))).setCell ⟨G, k * 4 + 3, none⟩ (.int .i64 0)).heap.size = W1.heap.size := by simp [World.setCell]
        clear hzz
        go_upto_region 12 with fail
        generalize (W1.setCell ⟨G, k * 4 + 2, none⟩ (.int .i64 (x.r + 1))) = W2 at *
        clear d0 d1 d2 d3 g2 g3
        go_upto_region 13 with fail
        generalize (W2.setCell ⟨G, k * 4 + 3, none⟩ (.int .i64 0)) = W3 at *
        clear e0 e1 e2 e3 k3 HO1 HS1 HN1 HT1 HO2 HO HS HT HK
        have hd := Below.drew (Below.refl W3.heap.size W3)
        have q0 : Hid (∀ W, Below W3.heap.size W3 W → W.cell? ⟨G, k * 4, none⟩ = some (.int .i64 x.i) ∧ W.cell? ⟨G, k * 4 + 1, none⟩ = some (.string x.t)) := fun W hW => ⟨(hW.cell (p := ⟨G, k * 4, none⟩) hGy).trans p0, (hW.cell (p := ⟨G, k * 4 + 1, none⟩) hGy).trans p1⟩
        clear p0 p1
        refine wp_region_held_drew (S := (fun w' => w'.cell? ⟨G, k * 4, none⟩ = some (.int .i64 x.i) ∧ w'.cell? ⟨G, k * 4 + 1, none⟩ = some (.string x.t))) (by kernel_rfl) ?_ (fun hHeld => ?_)
        · (try dsimp only); exact q0.out _ hd
        generalize W3.drew = D3 at hd hHeld ⊢
        replace HO3 : Hid (OwnKW D3 base (.slice (some ⟨G, 0, none⟩) l.length ca) ((l.take (k + 1)).map growW ++ l.drop (k + 1))) := OwnK.below HO3.out hd
        replace HS3 : Hid (OwnKS D3 w.heap.size (.slice ps S.length cs) S) := OwnK.below HS3.out hd
        replace HN3 : Hid (OwnKI D3 w.heap.size (.slice po O.length co) (overW (l.take (k + 1)))) := OwnK.below HN3.out hd
        replace HT3 : Hid (RowOnly (.slice (some ⟨G, 0, none⟩) l.length ca) w D3) := HT3.out.below hd
        first
          | (refine skipH (i := 0) rfl (by kernel_rfl) (by kernel_rfl) (by kernel_rfl) (fun _ _ _ h => h) (by rfl) (by assumption) ?_; try simp only [Act.put, List.setIfInBounds_toArray, List.set_cons_zero, List.set_cons_succ, List.getElem_toArray, List.getElem_cons_succ, List.getElem_cons_zero])
          | (refine yieldH (i := 0) (v := ?_) rfl (by kernel_rfl) (by kernel_rfl) (by kernel_rfl) (fun _ _ _ h => h) (by rfl) ?_ (by assumption) ?_; rotate_left; (intro w hSw; (try dsimp only at hSw); go_simp; (try with_reducible rfl)); try simp only [Act.put, List.setIfInBounds_toArray, List.set_cons_zero, List.set_cons_succ, List.getElem_toArray, List.getElem_cons_succ, List.getElem_cons_zero])
          | fail
        first
          | (refine skipH (i := 1) rfl (by kernel_rfl) (by kernel_rfl) (by kernel_rfl) (fun _ _ _ h => h) (by rfl) (by assumption) ?_; try simp only [Act.put, List.setIfInBounds_toArray, List.set_cons_zero, List.set_cons_succ, List.getElem_toArray, List.getElem_cons_succ, List.getElem_cons_zero])
          | (refine yieldH (i := 1) (v := ?_) rfl (by kernel_rfl) (by kernel_rfl) (by kernel_rfl) (fun _ _ _ h => h) (by rfl) ?_ (by assumption) ?_; rotate_left; (intro w hSw; (try dsimp only at hSw); go_simp; (try with_reducible rfl)); try simp only [Act.put, List.setIfInBounds_toArray, List.set_cons_zero, List.set_cons_succ, List.getElem_toArray, List.getElem_cons_succ, List.getElem_cons_zero])
          | fail
        first
          | (refine skipH (i := 2) rfl (by kernel_rfl) (by kernel_rfl) (by kernel_rfl) (fun _ _ _ h => h) (by rfl) (by assumption) ?_; try simp only [Act.put, List.setIfInBounds_toArray, List.set_cons_zero, List.set_cons_succ, List.getElem_toArray, List.getElem_cons_succ, List.getElem_cons_zero])
          | (refine yieldH (i := 2) (v := ?_) rfl (by kernel_rfl) (by kernel_rfl) (by kernel_rfl) (fun _ _ _ h => h) (by rfl) ?_ (by assumption) ?_; rotate_left; (intro w hSw; (try dsimp only at hSw); go_simp; (try with_reducible rfl)); try simp only [Act.put, List.setIfInBounds_toArray, List.set_cons_zero, List.set_cons_succ, List.getElem_toArray, List.getElem_cons_succ, List.getElem_cons_zero])
          | fail
        first
          | (refine skipH (i := 3) rfl (by kernel_rfl) (by kernel_rfl) (by kernel_rfl) (fun _ _ _ h => h) (by rfl) (by assumption) ?_; try simp only [Act.put, List.setIfInBounds_toArray, List.set_cons_zero, List.set_cons_succ, List.getElem_toArray, List.getElem_cons_succ, List.getElem_cons_zero])
          | (refine yieldH (i := 3) (v := ?_) rfl (by kernel_rfl) (by kernel_rfl) (by kernel_rfl) (fun _ _ _ h => h) (by rfl) ?_ (by assumption) ?_; rotate_left; (intro w hSw; (try dsimp only at hSw); go_simp; (try with_reducible rfl)); try simp only [Act.put, List.setIfInBounds_toArray, List.set_cons_zero, List.set_cons_succ, List.getElem_toArray, List.getElem_cons_succ, List.getElem_cons_zero])
          | fail
        refine yieldH (i := 4) (v := .int .i64 x.i) rfl (by kernel_rfl) (by kernel_rfl) (by kernel_rfl) (fun _ _ _ h => h) (by rfl) ?_ (by assumption) ?_
        · intro w hSw; (try dsimp only at hSw); have y0 := hSw.1; have y1 := hSw.2; go_simp
        try simp only [Act.put, List.setIfInBounds_toArray, List.set_cons_zero, List.set_cons_succ, List.getElem_toArray, List.getElem_cons_succ, List.getElem_cons_zero]
        first
          | (refine skipH (i := 5) rfl (by kernel_rfl) (by kernel_rfl) (by kernel_rfl) (fun _ _ _ h => h) (by rfl) (by assumption) ?_; try simp only [Act.put, List.setIfInBounds_toArray, List.set_cons_zero, List.set_cons_succ, List.getElem_toArray, List.getElem_cons_succ, List.getElem_cons_zero])
          | (refine yieldH (i := 5) (v := ?_) rfl (by kernel_rfl) (by kernel_rfl) (by kernel_rfl) (fun _ _ _ h => h) (by rfl) ?_ (by assumption) ?_; rotate_left; (intro w hSw; (try dsimp only at hSw); go_simp; (try with_reducible rfl)); try simp only [Act.put, List.setIfInBounds_toArray, List.set_cons_zero, List.set_cons_succ, List.getElem_toArray, List.getElem_cons_succ, List.getElem_cons_zero])
          | fail
        first
          | (refine skipH (i := 6) rfl (by kernel_rfl) (by kernel_rfl) (by kernel_rfl) (fun _ _ _ h => h) (by rfl) (by assumption) ?_; try simp only [Act.put, List.setIfInBounds_toArray, List.set_cons_zero, List.set_cons_succ, List.getElem_toArray, List.getElem_cons_succ, List.getElem_cons_zero])
          | (refine yieldH (i := 6) (v := ?_) rfl (by kernel_rfl) (by kernel_rfl) (by kernel_rfl) (fun _ _ _ h => h) (by rfl) ?_ (by assumption) ?_; rotate_left; (intro w hSw; (try dsimp only at hSw); go_simp; (try with_reducible rfl)); try simp only [Act.put, List.setIfInBounds_toArray, List.set_cons_zero, List.set_cons_succ, List.getElem_toArray, List.getElem_cons_succ, List.getElem_cons_zero])
          | fail
        first
          | (refine skipH (i := 7) rfl (by kernel_rfl) (by kernel_rfl) (by kernel_rfl) (fun _ _ _ h => h) (by rfl) (by assumption) ?_; try simp only [Act.put, List.setIfInBounds_toArray, List.set_cons_zero, List.set_cons_succ, List.getElem_toArray, List.getElem_cons_succ, List.getElem_cons_zero])
          | (refine yieldH (i := 7) (v := ?_) rfl (by kernel_rfl) (by kernel_rfl) (by kernel_rfl) (fun _ _ _ h => h) (by rfl) ?_ (by assumption) ?_; rotate_left; (intro w hSw; (try dsimp only at hSw); go_simp; (try with_reducible rfl)); try simp only [Act.put, List.setIfInBounds_toArray, List.set_cons_zero, List.set_cons_succ, List.getElem_toArray, List.getElem_cons_succ, List.getElem_cons_zero])
          | fail
        refine yieldH (i := 8) (v := .string x.t) rfl (by kernel_rfl) (by kernel_rfl) (by kernel_rfl) (fun _ _ _ h => h) (by rfl) ?_ (by assumption) ?_
        · intro w hSw; (try dsimp only at hSw); have y0 := hSw.1; have y1 := hSw.2; go_simp
        try simp only [Act.put, List.setIfInBounds_toArray, List.set_cons_zero, List.set_cons_succ, List.getElem_toArray, List.getElem_cons_succ, List.getElem_cons_zero]
        refine wpAnyH_ready (rs := [9]) (by kernel_rfl) (by simp) ?_
        refine AllReadyH.cons rfl (fun K hK => ?_) AllReadyH.nil
        go_simp
        go_at_call 57; refine (HLk.out D3).mono ?_; rintro e9 w9 ⟨rfl, hb9⟩
        (try dsimp only)
        refine hK.out _ _ ?_ (fun hHeld => ?_)
        · (try dsimp only); exact q0.out _ (keepB hd (Nat.le_refl _) hb9)
        clear hK K
        try simp only [Act.put, List.setIfInBounds_toArray, List.set_cons_zero, List.set_cons_succ, List.getElem_toArray, List.getElem_cons_succ, List.getElem_cons_zero]
        replace HO3 : Hid (OwnKW w9 base (.slice (some ⟨G, 0, none⟩) l.length ca) ((l.take (k + 1)).map growW ++ l.drop (k + 1))) := OwnK.below HO3.out hb9
        replace HS3 : Hid (OwnKS w9 w.heap.size (.slice ps S.length cs) S) := OwnK.below HS3.out hb9
        replace HN3 : Hid (OwnKI w9 w.heap.size (.slice po O.length co) (overW (l.take (k + 1)))) := OwnK.below HN3.out hb9
        replace HT3 : Hid (RowOnly (.slice (some ⟨G, 0, none⟩) l.length ca) w w9) := HT3.out.below hb9
        replace hd : Below W3.heap.size W3 w9 := keepB hd (Nat.le_refl _) hb9
        clear hb9
        generalize hLB : letB x.i x.t = LB at *
        clear hLB
        refine wpAnyH_ready (rs := [10]) (by kernel_rfl) (by simp) ?_
        refine AllReadyH.cons rfl (fun K hK => ?_) AllReadyH.nil
        go_simp
        (try dsimp only)
        refine hK.out _ _ ?_ (fun hHeld => ?_)
        · (try dsimp only); exact q0.out _ (keepB hd (Nat.le_refl _) (all_alloc w9 (.cells #[.string LB] 9)))
        clear hK K
        try simp only [Act.put, List.setIfInBounds_toArray, List.set_cons_zero, List.set_cons_succ, List.getElem_toArray, List.getElem_cons_succ, List.getElem_cons_zero]
        have bA := all_alloc w9 (.cells #[.string LB] 9)
        have hN8 : Hid _ := heap_alloc_new w9 (.cells #[.string LB] 9)
        replace HO3 : Hid (OwnKW (w9.alloc (.cells #[.string LB] 9)) base (.slice (some ⟨G, 0, none⟩) l.length ca) ((l.take (k + 1)).map growW ++ l.drop (k + 1))) := OwnK.below HO3.out bA
        replace HS3 : Hid (OwnKS (w9.alloc (.cells #[.string LB] 9)) w.heap.size (.slice ps S.length cs) S) := OwnK.below HS3.out bA
        replace HN3 : Hid (OwnKI (w9.alloc (.cells #[.string LB] 9)) w.heap.size (.slice po O.length co) (overW (l.take (k + 1)))) := OwnK.below HN3.out bA
        replace HT3 : Hid (RowOnly (.slice (some ⟨G, 0, none⟩) l.length ca) w (w9.alloc (.cells #[.string LB] 9))) := HT3.out.below bA
        replace hd : Below W3.heap.size W3 (w9.alloc (.cells #[.string LB] 9)) := keepB hd (Nat.le_refl _) bA
        generalize w9.alloc (.cells #[.string LB] 9) = w10 at *
        clear bA
        obtain ⟨N, hNe⟩ : ∃ N, w9.heap.size = N := ⟨_, rfl⟩
        rw [hNe] at hN8 ⊢
        clear hNe
        have hz10 := HT3.out.size
        obtain ⟨v7, w7, hrun, hO7, hg7, hv7⟩ := app_recK HTT.out txC_len txC_one w10 31 w.heap.size (.slice ps S.length cs) (.slice (some ⟨N, 0, none⟩) 1 1) S [LB] HS3.out (row_oneTx hN8.out) (by omega) (by simp) hz10
        have hgS : Below W3.heap.size W3 w10 → True := fun _ => trivial
        clear hgS
        refine wpAnyH_ready (rs := [11]) (by kernel_rfl) (by simp) ?_
        refine AllReadyH.cons rfl (fun K hK => ?_) AllReadyH.nil
        unfold Oper.wp; simp [Region.wanted, execOp, resolve, invoke, builtin, Act.eval, hrun, Result.andThen]
        have hK7 : OwnKW w7 base (.slice (some ⟨G, 0, none⟩) l.length ca) ((l.take (k + 1)).map growW ++ l.drop (k + 1)) := OwnK.grown HO3.out hg7 (own_apart HS3.out HO3.out (by decide))
        have hN7 : OwnKI w7 w.heap.size (.slice po O.length co) (overW (l.take (k + 1))) := OwnK.grown HN3.out hg7 (own_apart HS3.out HN3.out (by decide))
        have hT7 : RowOnly (.slice (some ⟨G, 0, none⟩) l.length ca) w w7 := HT3.out.grown hg7 (fun k hk => (OwnK.lt HS3.out k hk).1)
        obtain ⟨j1, j2, j3, j4, j5⟩ := own_cellsE hK7 k HKX.out
        (try dsimp only)
        refine hK.out _ _ ?_ (fun hHeld => ?_)
        · (try dsimp only); exact ⟨j1, j2⟩
        clear hK K
        try simp only [Act.put, List.setIfInBounds_toArray, List.set_cons_zero, List.set_cons_succ, List.getElem_toArray, List.getElem_cons_succ, List.getElem_cons_zero]
        first
          | (refine skipH (i := 12) rfl (by kernel_rfl) (by kernel_rfl) (by kernel_rfl) (fun _ _ _ h => h) (by rfl) (by assumption) ?_; try simp only [Act.put, List.setIfInBounds_toArray, List.set_cons_zero, List.set_cons_succ, List.getElem_toArray, List.getElem_cons_succ, List.getElem_cons_zero])
          | (refine yieldH (i := 12) (v := ?_) rfl (by kernel_rfl) (by kernel_rfl) (by kernel_rfl) (fun _ _ _ h => h) (by rfl) ?_ (by assumption) ?_; rotate_left; (intro w hSw; (try dsimp only at hSw); go_simp; (try with_reducible rfl)); try simp only [Act.put, List.setIfInBounds_toArray, List.set_cons_zero, List.set_cons_succ, List.getElem_toArray, List.getElem_cons_succ, List.getElem_cons_zero])
          | fail
        refine wpAnyH_done (by kernel_rfl) ?_ _
        have hS7 : OwnKS w7 w.heap.size v7 (sentW (l.take (k + 1))) := by rw [HSTe.out]; exact hO7
        clear hrun hHeld j1 j2 j3 j4 j5 hg7 hv7 hO7
        go_wp2
        go_roundw
        case rel => exact ⟨k + 1, by omega, by go_num, hS7, hN7, hK7, hT7⟩
        case measure => simp [intOf]; omega
      · have hgr : growW x = ⟨x.i, x.t, x.r, x.g + 1⟩ := by unfold growW; rw [if_neg h1, if_neg h2]
        have hsb : sendsB x = false := by unfold sendsB; rw [decide_eq_false h1, decide_eq_false h2]; rfl
        have hob : overB x = true := by unfold overB; rw [decide_eq_false h1, decide_eq_false h2]; rfl
        have HR : Hid (OwnKS W1 w.heap.size (.slice ps S.length cs) (sentW (l.take (k + 1))) ∧ OwnKW W1 base (.slice (some ⟨G, 0, none⟩) l.length ca) ((l.take (k + 1)).map growW ++ l.drop (k + 1))) := by
          rw [HST.out, ← HGS.out, hgr, hsb]
          simp only [Bool.false_eq_true, if_false, List.append_nil]
          exact ⟨HS1.out, HO1.out⟩
        have HOTe : Hid (overW (l.take (k + 1)) = O ++ [x.i]) := by rw [HOT.out, hob]; rfl
        clear hgr hsb hob HFZ
        have bV := all_alloc W1 (.cells #[.int .i64 x.i] 2)
        have hzb := bV.size
        have hz1 := HT1.out.size
        go_wp2_with (first
          | (refine wpList_app_rec HTN.out nuC_len nuC_one rfl (.tmp 29) (.tmp 34) rfl w.heap.size (.slice po O.length co) (.slice (some ⟨W1.heap.size, 0, none⟩) 1 1) O [x.i] rfl rfl (OwnK.below HN1.out bV) (row_oneNu (heap_alloc_new W1 (.cells #[.int .i64 x.i] 2))) (by omega) (by simp) (by omega) ?_
             intro v7 w7 hO7 hg7 hv7
             have HO7 : Hid (OwnKI w7 w.heap.size v7 (O ++ [x.i])) := hO7))
        have hT7 : RowOnly (.slice (some ⟨G, 0, none⟩) l.length ca) w w7 := (HT1.out.below bV).grown hg7 (fun k hk => (OwnK.lt HN1.out k hk).1)
        have hS7 : OwnKS w7 w.heap.size (.slice ps S.length cs) (sentW (l.take (k + 1))) := OwnK.grown (OwnK.below HR.out.1 bV) hg7 (own_apart HN1.out HS1.out (by decide))
        have hK7 : OwnKW w7 base (.slice (some ⟨G, 0, none⟩) l.length ca) ((l.take (k + 1)).map growW ++ l.drop (k + 1)) := OwnK.grown (OwnK.below HR.out.2 bV) hg7 (own_apart HN1.out HR.out.2 (by decide))
        go_roundw
        case rel => exact ⟨k + 1, by omega, by go_num, hS7, (by rw [HOTe.out]; exact HO7.out), hK7, hT7⟩
        case measure => simp [intOf]; omega
    · obtain ⟨ps, cs, rfl⟩ := OwnK.shape HS.out
      obtain ⟨po, co, rfl⟩ := OwnK.shape HO.out
      obtain rfl : k = l.length := by omega
      obtain ⟨hf1, hf2⟩ := HFIN.out wr HT.out (by
        have := HK.out
        rw [List.take_length, List.drop_length, List.append_nil] at this
        exact this)
      have hS := HS.out
      have hO := HO.out
      rw [List.take_length] at hS hO
      have HRES : Hid (OwnKS wr w.heap.size (.slice ps (sentW (l.take l.length)).length cs) (sentW l) ∧ OwnKI wr w.heap.size (.slice po (overW (l.take l.length)).length co) (overW l) ∧ OwnBt wr base M (.slice pa l.length ca) vd ⟨s.nx, l.map growW, s.dn⟩ ∧ Below base w wr) := ⟨by rw [List.take_length]; exact hS, by rw [List.take_length]; exact hO, hf1, hf2⟩
      clear hS hO hf1 hf2
      go_wp2
      refine bodyPost_ret (results_tmp2 rfl _ _ _) rfl ?_
      exact ⟨_, _, rfl, HRES.out.1, HRES.out.2.1, HRES.out.2.2.1, HRES.out.2.2.2⟩
end Go.Proofs.Ytghchcipobcpjaa
