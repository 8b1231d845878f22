/- WHAT IS OPEN OF AN ID BROUGHT TO ITS END, the program's. -/
import Derived.Test.YtghchcipobcpjaaQtDropW
import Derived.Test.YtghchcipobcpjaaQtMoL
namespace Go.Proofs.Ytghchcipobcpjaa
open Go.RowKit
set_option linter.unusedVariables false
set_option linter.unusedSimpArgs false

/-- a master at work, its lists where they may lie -/
structure OwnBt (w : World) (base M : Nat) (va vd : Value) (s : Mst) : Prop where
  le : base ≤ M
  box : w.heap[M]? = some (.cells #[va, .int .i64 s.nx, vd] 60 (0, 0))
  op : OwnKW w base va s.op
  dn : OwnKD w base vd s.dn
theorem OwnBt.below {w w' : World} {base M : Nat} {va vd : Value} {s : Mst} (h : OwnBt w base M va vd s) (hb : Below w.heap.size w w') : OwnBt w' base M va vd s := ⟨h.le, blk h.box hb, OwnK.below h.op hb, OwnK.below h.dn hb⟩
theorem OwnAt.bt {w : World} {base M : Nat} {va vd : Value} {s : Mst} (h : OwnAt w base M va vd s) : OwnBt w base M va vd s := ⟨h.le, h.box, OwnK.low h.op (by have := h.le; omega), h.dn⟩
theorem box_apart {α : Type} {m : Nat} {ty ty' : TypeId} {cell : α → List Value} {w : World} {b M : Nat} {v : Value} {l : List α} {c : Array Value} {fz : Nat × Nat} (h : OwnK m ty cell w b v l) (hM : w.heap[M]? = some (.cells c ty' fz)) (hne : ty ≠ ty') : ∀ k, v.ownBlock = some k → k ≠ M := by
  intro k hk e
  subst e
  rcases h.2 with ⟨rfl, _⟩ | ⟨g, cap, cur, rfl, _, q, _⟩
  · cases hk
  cases hk
  rw [q] at hM
  cases hM
  exact hne rfl
theorem ownK_some {α : Type} {m : Nat} {ty : TypeId} {cell : α → List Value} {w : World} {b : Nat} {v : Value} {l : List α} (h : OwnK m ty cell w b v l) (hl : 0 < l.length) : ∃ G c, v = .slice (some ⟨G, 0, none⟩) l.length c ∧ b ≤ G ∧ G < w.heap.size := by
  have hlt := OwnK.lt h
  rcases h.2 with ⟨rfl, h0⟩ | ⟨g, cap, cur, rfl, _, q, _⟩
  · omega
  · obtain ⟨h1, h2⟩ := hlt g rfl
    exact ⟨g, cap, rfl, h1, h2⟩
set_option maxRecDepth 100000 in
set_option maxHeartbeats 1600000 in
theorem dropOpen_any (s : Mst) (i : Int) (base M : Nat) (va vd : Value) (w : World) (hl : s.op.length ≤ 1000) (hp : placeW s.op i < s.op.length) (h : OwnBt w base M va vd s) :
    Calls Try.prog 63 #[.pointer (some ⟨M, 0, none⟩), .int .i64 i] w fun e w' => e = .returned (.tuple #[]) ∧ (∃ va', OwnBt w' base M va' vd ⟨s.nx, dropW s.op i, s.dn⟩ ∧ va'.ownBlock = va.ownBlock) ∧ TouchR w w' (fun k => k = M ∨ va.ownBlock = some k) := by
  have hmf : ∀ (fn : Fn) (first cap : Array Value) (w : World), (Instr.makeFunc fn first cap).run Try.prog w = .ok (.func fn first cap) w := fun _ _ _ _ => rfl
  obtain ⟨G, c, rfl, hG1, hG2⟩ := ownK_some h.op (by omega)
  have hGM : G ≠ M := box_apart h.op h.box (by decide) G rfl
  have hMw := (Array.getElem?_eq_some_iff.1 h.box).1
  have hle := h.le
  have hA := all_alloc w (.cells #[.int .i64 i] 2)
  have hX := heap_alloc_new w (.cells #[.int .i64 i] 2)
  have hz : w.heap.size < (w.alloc (.cells #[.int .i64 i] 2)).heap.size := (Array.getElem?_eq_some_iff.1 hX).1
  have hap := rows_apart h.op h.dn
  have HOD : Hid (OwnKD w base vd s.dn) := h.dn
  have HOB : Hid _ := h.box
  have hltD := OwnK.lt h.dn
  have hDM : ∀ k, vd.ownBlock = some k → k ≠ M := box_apart h.dn h.box (by decide)
  have H : Hid (Calls Try.prog 72 #[.slice (some ⟨G, 0, none⟩) s.op.length c, .func (.func 73) #[] #[.pointer (some ⟨w.heap.size, 0, none⟩)]] (w.alloc (.cells #[.int .i64 i] 2)) fun e w' => e = .returned (.slice (some ⟨G, 0, none⟩) (dropW s.op i).length c) ∧ OwnKW w' base (.slice (some ⟨G, 0, none⟩) (dropW s.op i).length c) (dropW s.op i) ∧ OnlyR (w.alloc (.cells #[.int .i64 i] 2)) w' G (G + 1)) :=
    deleteWait_any s.op i w.heap.size G c base _ hl (by omega) hX hp (OwnK.below h.op hA)
  have b0 := cellW h.box 0 _ rfl _ hA
  clear hX h hp
  generalize dropW s.op i = D at H ⊢
  go_enter Try.func63, Try.ntmps63
  go_upto_region 1 with fail
  generalize (w.alloc (.cells #[.int .i64 i] 2)) = A at hA H b0 hz ⊢
  generalize w.heap.size = N at H
  go_wp2_with (go_at_call 72; refine H.out.mono ?_; rintro e w2 ⟨rfl, hO2, ht2⟩; have hB2 : Hid _ := (ht2.block M (by omega) (by omega)).trans (blk HOB.out hA); have z0 := cellW hB2.out 0 _ rfl w2 (Below.refl _ _); have f0 := frozenW hB2.out 0 w2 (Below.refl _ _))
  go_end0
  have hz2 := ht2.size
  refine ⟨rfl, ⟨_, ⟨hle, blk_set hB2.out 0 _, OwnK.far hO2 (a := ⟨M, 0, none⟩) (fun b hb => by cases hb; exact hGM) _, OwnK.far ((OwnK.below HOD.out hA).keep fun k hk => ht2.block k (by have := hltD k hk; omega) (by have := hap G k rfl hk; omega)) (a := ⟨M, 0, none⟩) hDM _⟩, rfl⟩, ?_⟩
  refine ⟨ht2.os.trans hA.os, ht2.tape.trans hA.tape, ht2.output.trans hA.output, by rw [show (w2.setCell ⟨M, 0, none⟩ (.slice (some ⟨G, 0, none⟩) D.length c)).heap.size = w2.heap.size by simp [World.setCell]]; omega, fun k hk hn => ?_⟩
  have h1 : k ≠ M := fun e => hn (.inl e)
  have h2 : k ≠ G := fun e => hn (.inr (by rw [e]; rfl))
  exact ((Below.heap_setCell _ _ _ _ (by simpa using h1)).trans (ht2.block k (by omega) (by omega))).trans (hA.block k hk)
set_option maxRecDepth 100000 in
set_option maxHeartbeats 3200000 in
theorem finish_any (s : Mst) (i : Int) (ans : ByteArray) (base M : Nat) (va vd : Value) (w : World) (hl : s.op.length ≤ 1000) (hl2 : s.dn.length ≤ 1000) (hp : placeW s.op i < s.op.length) (h : OwnBt w base M va vd s) :
    Calls Try.prog 40 #[.pointer (some ⟨M, 0, none⟩), .int .i64 i, .string ans] w fun e w' => e = .returned (.tuple #[]) ∧ (∃ va' vd', OwnBt w' base M va' vd' ⟨s.nx, dropW s.op i, s.dn ++ [⟨i, ans⟩]⟩) ∧ TouchR w w' (fun k => k = M ∨ va.ownBlock = some k ∨ vd.ownBlock = some k) := by
  obtain ⟨iD, TD⟩ := tyD
  have HTD : Hid _ := TD
  have hle := h.le
  have hMw := (Array.getElem?_eq_some_iff.1 h.box).1
  have HD : Hid (Calls Try.prog 63 #[.pointer (some ⟨M, 0, none⟩), .int .i64 i] w fun e w' => e = .returned (.tuple #[]) ∧ (∃ va', OwnBt w' base M va' vd ⟨s.nx, dropW s.op i, s.dn⟩ ∧ va'.ownBlock = va.ownBlock) ∧ TouchR w w' (fun k => k = M ∨ va.ownBlock = some k)) := dropOpen_any s i base M va vd w hl hp h
  clear h hp TD
  generalize dropW s.op i = D at HD ⊢
  go_enter Try.func40, Try.ntmps40
  go_upto_region 1 with (go_at_call 63; refine HD.out.mono ?_; rintro e w1 ⟨rfl, ⟨va1, h1, hva1⟩, hB1⟩)
  have H1 : Hid (OwnBt w1 base M va1 vd ⟨s.nx, D, s.dn⟩) := h1
  obtain ⟨pd, cd, rfl⟩ := OwnK.shape h1.dn
  have x2 := cellW h1.box 2 _ rfl w1 (Below.refl _ _)
  have hM1 := (Array.getElem?_eq_some_iff.1 h1.box).1
  have bV := all_alloc w1 (.cells #[.int .i64 i, .string ans] 69)
  clear h1
  go_wp2_with (first
    | (refine wpList_app_rec HTD.out dnC_len dnC_one rfl (.tmp 15) (.tmp 19) rfl base (.slice pd s.dn.length cd) (.slice (some ⟨w1.heap.size, 0, none⟩) 1 1) s.dn [⟨i, ans⟩] rfl rfl (OwnK.below H1.out.dn bV) (row_oneD (heap_alloc_new w1 (.cells #[.int .i64 i, .string ans] 69))) (by omega) (by simp) (by have := bV.size; omega) ?_
       intro v7 w7 hO7 hg7 hv7
       obtain ⟨p7, c7, rfl⟩ := OwnK.shape hO7
       rw [show (s.dn ++ [(⟨i, ans⟩ : Dn)]).length = s.dn.length + 1 by rw [List.length_append]; rfl] at hO7 hv7 ⊢
       have hM7 : Hid _ := (hg7.block M (by have := bV.size; omega) (fun e => box_apart H1.out.dn H1.out.box (by decide) M e.symm rfl)).trans (blk H1.out.box bV)
       have n2 := cellW hM7.out 2 _ rfl w7 (Below.refl _ _)
       have f2 := frozenW hM7.out 2 w7 (Below.refl _ _)))
  go_end0
  have hz7 := bV.size
  have hO1 : OwnKW w7 base va1 D := OwnK.grown (OwnK.below H1.out.op bV) hg7 (fun a b ha hb e => rows_apart H1.out.op H1.out.dn b a hb ha e.symm)
  refine ⟨rfl, ⟨_, _, ⟨hle, blk_set hM7.out 2 _, OwnK.far hO1 (a := ⟨M, 2, none⟩) (box_apart hO1 hM7.out (by decide)) _, ?_⟩⟩, ?_⟩
  · have hq : OwnKD (w7.setCell ⟨M, 2, none⟩ (.slice p7 (s.dn.length + 1) c7)) base (.slice p7 (s.dn.length + 1) c7) (s.dn ++ [⟨i, ans⟩]) := OwnK.far (a := ⟨M, 2, none⟩) hO7 (box_apart hO7 hM7.out (by decide)) _
    exact hq
  · have hz1 := hB1.size
    have hz9 := hg7.size
    refine ⟨(hg7.os.trans bV.os).trans hB1.os, (hg7.tape.trans bV.tape).trans hB1.tape, (hg7.output.trans bV.output).trans hB1.output, by rw [show (w7.setCell ⟨M, 2, none⟩ (.slice p7 (s.dn.length + 1) c7)).heap.size = w7.heap.size by simp [World.setCell]]; omega, fun k hk hn => ?_⟩
    have h1 : k ≠ M := fun e => hn (.inl e)
    exact (((Below.heap_setCell _ _ _ _ (by simpa using h1)).trans (hg7.block k (by omega) (fun e => hn (.inr (.inr e.symm))))).trans (bV.block k (by omega))).trans (hB1.block k hk (fun h => h.elim h1 (fun e => hn (.inr (.inl e)))))
end Go.Proofs.Ytghchcipobcpjaa
