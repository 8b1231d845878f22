/- THE WALKS of the model's draw of a wire. -/
import Derived.Test.YtiaphaghjklhaaaDrawH
import Derived.Test.YtiaphaghjklhaaaFeed
import Derived.WalkKit
import Derived.WalkSpells
import Derived.Outline
import Derived.Below
import Derived.Deep.RegionWith
import Derived.Deep.DeepCutAuto
namespace Go.Proofs.Ytiaphaghjklhaaa
open Go.RowKit
set_option linter.unusedVariables false
set_option linter.unusedSimpArgs false

theorem feedR_buf (x : Wr) (t : ByteArray) : (bytesOf (feedR x t).1.buf).size ≤ 62 := by
  rw [bytesOf_size]
  unfold feedR
  split
  · simp [zeroW]
  · split
    · simp [zeroW]
    · rename_i h1 h2
      exact right_len (Wr.feed_right _ x (by simpa using h2))
theorem Rb_blw {B : Nat} {x y : World} {a : Option Addr} {len : Nat} (h : Rb B x a len) (k : Below B x y) : Rb B y a len := by
  refine ⟨h.1, h.2.imp id ?_⟩
  rintro ⟨g, o, e, hg, hc⟩
  refine ⟨g, o, e, hg, fun i hi => ?_⟩
  obtain ⟨v, h1, h2⟩ := hc i hi
  exact ⟨v, (k.cell (p := ⟨g, o + i, none⟩) hg).trans h1, h2⟩
theorem Dr.set {b B : Nat} {a : Option Addr} {len cap : Nat} {w0 w : World} (h : Dr b B a len cap w0 w) {g : Nat} (hb : b < g) (hw : w0.heap.size ≤ g) (o : Nat) (v : Value) : Dr b B a len cap w0 (w.setCell ⟨g, o, none⟩ v) :=
  ⟨h.src.of_block (Below.heap_setCell _ _ _ _ (by show b ≠ g; omega)), Rb_blw h.rb ((Below.refl B w).setCell (by have := h.le; show B ≤ g; omega) _),
    ⟨h.grb.os, h.grb.tape, h.grb.output, by simpa [World.setCell] using h.grb.size, fun k hk hkb => (Below.heap_setCell _ _ _ _ (by show k ≠ g; omega)).trans (h.grb.block k hk hkb)⟩, by simpa [World.setCell] using h.lt, h.le⟩
theorem bytes_D2 {b B : Nat} {a : Option Addr} {len cap : Nat} {w0 w : World} (h : Dr b B a len cap w0 w) (n : Nat) (hn : n ≤ 1000000) :
    Calls Try.prog 48 #[.pointer (some ⟨b, 0, none⟩), .int .i64 n] w fun e w' => ∃ s : ByteArray, e = .returned (.string s) ∧ s.size = n ∧ Dr b B a len cap w0 w' ∧ Grb b w w' :=
  (bytes_any b B a len cap n w hn h.src h.rb h.le h.lt).mono fun e w' ⟨s, h1, h3, h4, h5⟩ => ⟨s, h1, h3, h.grown h4 h5, h5⟩
theorem Dr.base {b B : Nat} {a : Option Addr} {len cap : Nat} {w0 w : World} (h : Dr b B a len cap w0 w) : Dr b B a len cap w w := ⟨h.src, h.rb, Grb.refl _ _, h.lt, h.le⟩
theorem Dr.join {b B : Nat} {a : Option Addr} {len cap : Nat} {w0 w w' : World} (h : Dr b B a len cap w0 w) (k : Dr b B a len cap w w') : Dr b B a len cap w0 w' := ⟨k.src, k.rb, h.grb.trans k.grb, k.lt, k.le⟩
/-- a wire in block V, and the answer's place in block P -/
structure WV (b B : Nat) (a : Option Addr) (len cap : Nat) (w0 : World) (P V : Nat) (i e d : Bool) (s : ByteArray) (w : World) : Prop where
  dr : Dr b B a len cap w0 w
  boxV : w.heap[V]? = some (.cells #[.bool i, .bool e, .bool d, .string s] 35 (0, 0))
  boxP : w.heap[P]? = some (.cells #[.bool false, .bool false, .bool false, .string ⟨#[]⟩] 35 (0, 0))
  bP : b < P
  wP : w0.heap.size ≤ P
  PV : P < V
theorem WV.grb {b B : Nat} {a : Option Addr} {len cap : Nat} {w0 : World} {P V : Nat} {i e d : Bool} {s : ByteArray} {w w' : World} (h : WV b B a len cap w0 P V i e d s w) (hd : Dr b B a len cap w0 w') (hg : Grb b w w') : WV b B a len cap w0 P V i e d s w' :=
  ⟨hd, (hg.block V (Array.getElem?_eq_some_iff.1 h.boxV).1 (by have := h.bP; have := h.PV; omega)).trans h.boxV, (hg.block P (Array.getElem?_eq_some_iff.1 h.boxP).1 (by have := h.bP; omega)).trans h.boxP, h.bP, h.wP, h.PV⟩
theorem WV.below {b B : Nat} {a : Option Addr} {len cap : Nat} {w0 : World} {P V : Nat} {i e d : Bool} {s : ByteArray} {w w' : World} (h : WV b B a len cap w0 P V i e d s w) (hb : Below w.heap.size w w') : WV b B a len cap w0 P V i e d s w' := h.grb (h.dr.below hb) (grb_of_below hb)
theorem WV.cellV {b B : Nat} {a : Option Addr} {len cap : Nat} {w0 : World} {P V : Nat} {i e d : Bool} {s : ByteArray} {w : World} (h : WV b B a len cap w0 P V i e d s w) : w.cell? ⟨V, 0, none⟩ = some (.bool i) ∧ w.cell? ⟨V, 1, none⟩ = some (.bool e) ∧ w.cell? ⟨V, 2, none⟩ = some (.bool d) ∧ w.cell? ⟨V, 3, none⟩ = some (.string s) ∧ ∀ o, w.frozen? ⟨V, o, none⟩ = false :=
  let k := cells_at h.boxV
  ⟨k.1 0 _ rfl, k.1 1 _ rfl, k.1 2 _ rfl, k.1 3 _ rfl, k.2.1⟩
theorem WV.cellP {b B : Nat} {a : Option Addr} {len cap : Nat} {w0 : World} {P V : Nat} {i e d : Bool} {s : ByteArray} {w : World} (h : WV b B a len cap w0 P V i e d s w) : w.cell? ⟨P, 0, none⟩ = some (.bool false) ∧ w.cell? ⟨P, 1, none⟩ = some (.bool false) ∧ w.cell? ⟨P, 2, none⟩ = some (.bool false) ∧ w.cell? ⟨P, 3, none⟩ = some (.string ⟨#[]⟩) ∧ ∀ o, w.frozen? ⟨P, o, none⟩ = false :=
  let k := cells_at h.boxP
  ⟨k.1 0 _ rfl, k.1 1 _ rfl, k.1 2 _ rfl, k.1 3 _ rfl, k.2.1⟩
/-- another wire is put into block V -/
theorem WV.put {b B : Nat} {a : Option Addr} {len cap : Nat} {w0 : World} {P V : Nat} {i e d : Bool} {s : ByteArray} {w : World} (h : WV b B a len cap w0 P V i e d s w) (i' e' d' : Bool) (s' : ByteArray) : WV b B a len cap w0 P V i' e' d' s' ((((w.setCell ⟨V, 0, none⟩ (.bool i')).setCell ⟨V, 1, none⟩ (.bool e')).setCell ⟨V, 2, none⟩ (.bool d')).setCell ⟨V, 3, none⟩ (.string s')) := by
  have h1 := h.bP
  have h2 := h.wP
  have h3 := h.PV
  refine ⟨(((h.dr.set (by omega) (by omega) _ _).set (by omega) (by omega) _ _).set (by omega) (by omega) _ _).set (by omega) (by omega) _ _, ?_, ?_, h1, h2, h3⟩
  · exact set_at 3 _ (set_at 2 _ (set_at 1 _ (set_at (cs := [.bool i, .bool e, .bool d, .string s]) 0 _ h.boxV)))
  · have hn : P ≠ V := by omega
    rw [Below.heap_setCell _ _ _ _ hn, Below.heap_setCell _ _ _ _ hn, Below.heap_setCell _ _ _ _ hn, Below.heap_setCell _ _ _ _ hn]
    exact h.boxP
theorem field_wire (c0 c1 c2 c3 c4 c5 : Value) (w : World) : (Instr.field 40 (.agg #[c0, c1, c2, c3, c4, c5]) 0).run Try.prog w = .ok (.agg #[c0, c1, c2, c3]) w := by kernel_rfl
theorem feed_some (i e d : Bool) (s t : ByteArray) (w : World) (hs : s.size ≤ maxLen) (ht : t.size ≤ maxLen) :
    Calls Try.prog 25 #[.agg #[.bool i, .bool e, .bool d, .string s], .string t] w fun x w' => ∃ (i' e' d' : Bool) (s' : ByteArray) (p : Option Addr) (n c : Nat) (z : Int), x = .returned (.agg #[.bool i', .bool e', .bool d', .string s', .slice p n c, .int .i64 z]) ∧ s'.size ≤ 62 ∧ Below w.heap.size w w' := by
  refine (specWireFeed_any i e d s t w hs ht).mono ?_
  rintro x w' ⟨v, rfl, ho, hb⟩
  obtain ⟨p, c, rfl⟩ := ho.shape
  exact ⟨_, _, _, _, _, _, _, _, rfl, feedR_buf _ _, hb⟩
def PWire (b B : Nat) (a : Option Addr) (len cap : Nat) (w0 : World) (x : Ending) (w' : World) : Prop := ∃ (i e d : Bool) (s : ByteArray), x = .returned (.agg #[.bool i, .bool e, .bool d, .string s]) ∧ s.size ≤ 64 ∧ Dr b B a len cap w0 w'
theorem PWire.mk {b B : Nat} {a : Option Addr} {len cap : Nat} {w0 : World} {w' : World} {i e d : Bool} {s : ByteArray} (h1 : s.size ≤ 64) (h2 : Dr b B a len cap w0 w') : PWire b B a len cap w0 (.returned (.agg #[.bool i, .bool e, .bool d, .string s])) w' := ⟨i, e, d, s, rfl, h1, h2⟩
set_option maxRecDepth 100000 in
set_option maxHeartbeats 3200000 in
theorem l02Wire_D {b B : Nat} {a : Option Addr} {len cap : Nat} {w0 w : World} (h : Dr b B a len cap w0 w) :
    Calls Try.prog 64 #[.pointer (some ⟨b, 0, none⟩)] w (PWire b B a len cap w0) := by
  have HD : Hid _ := h.alloc (.cells #[.bool false, .bool false, .bool false, .string ⟨#[]⟩] 35)
  have hbl : b < w.heap.size := h.lt
  have hw0 : w0.heap.size ≤ w.heap.size := h.size
  have hfw := field_wire
  have hfl : (⟨#[126]⟩ : ByteArray).size = 1 := rfl
  obtain ⟨i0, hi, hz0, hz1, hz2⟩ := info_parts info5
  clear h
  go_enter Try.func64, Try.ntmps64
  go_upto_region 2 with (first
    | (go_at_call 65; refine (l02Noise_D HD.out.base).mono ?_; rintro e w1 ⟨s1, rfl, hs1, hD1⟩)
    | (go_at_call 25; refine (feed_some false false false ⟨#[]⟩ s1 _ (by decide) (by unfold maxLen; omega)).mono ?_; rintro e w2 ⟨i2, e2, d2, s2, p2, n2, c2, z2, rfl, hs2, hb2⟩))
  have hzA := hD1.size
  simp at hzA
  have HV : Hid (WV b B a len cap w0 w.heap.size w2.heap.size i2 e2 d2 s2 (w2.alloc (.cells #[.bool i2, .bool e2, .bool d2, .string s2] 35))) := by
    have hz2 := hb2.size
    refine ⟨(((HD.out.join hD1).below hb2).alloc _), heap_alloc_new _ _, ?_, hbl, hw0, by omega⟩
    rw [heap_alloc_old _ _ (by omega), hb2.block _ (by omega), hD1.grb.block w.heap.size (by simp) (by omega), heap_alloc_new]
  generalize w2.alloc (.cells #[.bool i2, .bool e2, .bool d2, .string s2] 35) = X at HV ⊢
  generalize w2.heap.size = V at HV ⊢
  generalize w.heap.size = P at HV ⊢
  clear HD hbl hw0 hD1 hb2 hzA hs1
  go_upto_region 4 with (go_at_call 46; refine (one_D HV.out.dr 2 (by omega)).mono ?_; rintro e w3 ⟨o3, rfl, hD3, ho3⟩; have HV3 : Hid _ := HV.out.grb hD3 ho3.grb)
  · obtain ⟨c0, c1, c2, c3, cf⟩ := HV3.out.cellV
    go_cut [] (fun wx => ∃ (i4 e4 d4 : Bool) (s4 : ByteArray), s4.size ≤ 62 ∧ Hid (WV b B a len cap w0 P V i4 e4 d4 s4 wx))
    case first =>
      have HVd : Hid (∀ W, Below w3.heap.size w3 W → WV b B a len cap w0 P V i2 e2 d2 s2 W) := fun W hW => HV3.out.below hW
      go_region_with ((first
        | (go_at_call 47; refine (n_D (HVd.out _ (by first | exact Below.refl _ _ | exact (Below.refl _ _).drew)).dr 5 (by omega)).mono ?_; rintro e4 w4 ⟨r4, rfl, hr4, hD4, ho4⟩; have hr5 : r4 < 5 := (by omega); have HV4 : Hid _ := (HVd.out _ (by first | exact Below.refl _ _ | exact (Below.refl _ _).drew)).grb hD4 ho4.grb; obtain ⟨x0, x1, x2, x3, xf⟩ := HV4.out.cellV)
        | (go_at_call 48; refine (bytes_D2 HV4.out.dr r4 (by omega)).mono ?_; rintro e5 w5 ⟨s5, rfl, hs5, hD5, hg5⟩; have HV5 : Hid _ := HV4.out.grb hD5 hg5; obtain ⟨y0, y1, y2, y3, yf⟩ := HV5.out.cellV)
        | (go_at_call 25; refine (feed_some i2 e2 d2 s2 _ _ (by unfold maxLen; omega) (by rw [ByteArray.size_append, hfl]; unfold maxLen; omega)).mono ?_; rintro e6 w6 ⟨i6, e6', d6, s6, p6, n6, c6, z6, rfl, hs6, hb6⟩; have HV6 : Hid _ := HV5.out.below hb6; obtain ⟨u0, u1, u2', u3', uf⟩ := HV6.out.cellV)))
      all_goals (go_wp2; go_meet)
      all_goals exact ⟨_, _, _, _, hs6, HV6.out.put _ _ _ _⟩
    case rest =>
      clear c0 c1 c2 c3 cf
      obtain ⟨i4, e4, d4, s4, hs4, HV4⟩ := hcut
      have q1 := HV4.out.bP
      have q2 := HV4.out.wP
      have q3 := HV4.out.PV
      have q4 : ¬ P = V := by omega
      have q5 : ¬ V = P := by omega
      go_upto_region 5 with (go_at_call 46; refine (one_D HV4.out.dr 12 (by omega)).mono ?_; rintro e7 w7 ⟨o7, rfl, hD7, ho7⟩; have HV7 : Hid _ := HV4.out.grb hD7 ho7.grb; obtain ⟨c0, c1, c2, c3, cf⟩ := HV7.out.cellV; obtain ⟨k0, k1, k2, k3, kf⟩ := HV7.out.cellP)
      · clear c0 c1 c2 c3 cf k0 k1 k2 k3 kf
        go_upto_region 7 with (go_at_call 47; refine (n_D HV7.out.dr 4 (by omega)).mono ?_; rintro e8 w8 ⟨r8, rfl, hr8, hD8, ho8⟩; have hr9 : r8 < 4 := (by omega); have HV8 : Hid _ := HV7.out.grb hD8 ho8.grb; obtain ⟨c0, c1, c2, c3, cf⟩ := HV8.out.cellV; obtain ⟨k0, k1, k2, k3, kf⟩ := HV8.out.cellP)
        by_cases h0 : r8 = 0
        · subst h0
          go_wp2
          exact bodyPost_ret (v := .agg #[.bool !i4, .bool e4, .bool d4, .string s4]) (by simp [results, Try.results64, go_sem, k0, k1, k2, k3, q4, q5, c0, c1, c2, c3]) rfl (PWire.mk (by omega) (by
            repeat (refine Dr.set ?_ (by omega) (by omega) _ _)
            exact HV8.out.dr))
        have t0 : ((r8 : Int) == 0) = false := by simp; omega
        by_cases h1 : r8 = 1
        · subst h1
          go_wp2
          exact bodyPost_ret (v := .agg #[.bool i4, .bool e4, .bool !d4, .string s4]) (by simp [results, Try.results64, go_sem, k0, k1, k2, k3, q4, q5, c0, c1, c2, c3]) rfl (PWire.mk (by omega) (by
            repeat (refine Dr.set ?_ (by omega) (by omega) _ _)
            exact HV8.out.dr))
        have t1 : ((r8 : Int) == 1) = false := by simp; omega
        by_cases h2 : r8 = 2
        · subst h2
          go_wp2
          exact bodyPost_ret (v := .agg #[.bool i4, .bool !e4, .bool d4, .string s4]) (by simp [results, Try.results64, go_sem, k0, k1, k2, k3, q4, q5, c0, c1, c2, c3]) rfl (PWire.mk (by omega) (by
            repeat (refine Dr.set ?_ (by omega) (by omega) _ _)
            exact HV8.out.dr))
        have t2 : ((r8 : Int) == 2) = false := by simp; omega
        go_wp2_with (first
          | (go_at_call 47; refine (n_D HV8.out.dr 3 (by omega)).mono ?_; rintro e9 w9 ⟨r9, rfl, hr10, hD9, ho9⟩; have hr11 : r9 < 3 := (by omega))
          | (at_make; refine wpList_make_full _ rfl (.tmp 25) (.tmp 25) 22 rfl w9.heap.size 5 i0 (.int .u8 0) 1 Try.underlying22 hi hz0 hz1 .i64 .i64 _ _ (61 + r9) rfl rfl (by omega) (by omega) (by rw [hz2]; omega) (by unfold maxLen; omega) (Nat.le_refl _) ?_; intro w10 hown10 hgrow10; have HV10 : Hid _ := (HV8.out.grb hD9 ho9.grb).below (below_none hgrow10); obtain ⟨Z, hZ, hcv⟩ := zeros_conv hown10; clear hown10 hgrow10 c0 c1 c2 c3 cf k0 k1 k2 k3 kf; obtain ⟨c0, c1, c2, c3, cf⟩ := HV10.out.cellV; obtain ⟨k0, k1, k2, k3, kf⟩ := HV10.out.cellP))
        exact bodyPost_ret (v := .agg #[.bool i4, .bool e4, .bool d4, .string Z]) (by simp [results, Try.results64, go_sem, k0, k1, k2, k3, q4, q5, c0, c1, c2, c3]) rfl (PWire.mk (by omega) (by
          repeat (refine Dr.set ?_ (by omega) (by omega) _ _)
          exact HV10.out.dr))
      · exact bodyPost_ret (v := .agg #[.bool i4, .bool e4, .bool d4, .string s4]) (by simp [results, Try.results64, go_sem, k0, k1, k2, k3, q4, q5, c0, c1, c2, c3]) rfl (PWire.mk (by omega) (by
          repeat (refine Dr.set ?_ (by omega) (by omega) _ _)
          exact HV7.out.dr))
  · skip
    have q1 := HV3.out.bP
    have q2 := HV3.out.wP
    have q3 := HV3.out.PV
    have q4 : ¬ P = V := by omega
    have q5 : ¬ V = P := by omega
    go_upto_region 5 with (go_at_call 46; refine (one_D HV3.out.dr 12 (by omega)).mono ?_; rintro e7 w7 ⟨o7, rfl, hD7, ho7⟩; have HV7 : Hid _ := HV3.out.grb hD7 ho7.grb; obtain ⟨c0, c1, c2, c3, cf⟩ := HV7.out.cellV; obtain ⟨k0, k1, k2, k3, kf⟩ := HV7.out.cellP)
    · clear c0 c1 c2 c3 cf k0 k1 k2 k3 kf
      go_upto_region 7 with (go_at_call 47; refine (n_D HV7.out.dr 4 (by omega)).mono ?_; rintro e8 w8 ⟨r8, rfl, hr8, hD8, ho8⟩; have hr9 : r8 < 4 := (by omega); have HV8 : Hid _ := HV7.out.grb hD8 ho8.grb; obtain ⟨c0, c1, c2, c3, cf⟩ := HV8.out.cellV; obtain ⟨k0, k1, k2, k3, kf⟩ := HV8.out.cellP)
      by_cases h0 : r8 = 0
      · subst h0
        go_wp2
        exact bodyPost_ret (v := .agg #[.bool !i2, .bool e2, .bool d2, .string s2]) (by simp [results, Try.results64, go_sem, k0, k1, k2, k3, q4, q5, c0, c1, c2, c3]) rfl (PWire.mk (by omega) (by
          repeat (refine Dr.set ?_ (by omega) (by omega) _ _)
          exact HV8.out.dr))
      have t0 : ((r8 : Int) == 0) = false := by simp; omega
      by_cases h1 : r8 = 1
      · subst h1
        go_wp2
        exact bodyPost_ret (v := .agg #[.bool i2, .bool e2, .bool !d2, .string s2]) (by simp [results, Try.results64, go_sem, k0, k1, k2, k3, q4, q5, c0, c1, c2, c3]) rfl (PWire.mk (by omega) (by
          repeat (refine Dr.set ?_ (by omega) (by omega) _ _)
          exact HV8.out.dr))
      have t1 : ((r8 : Int) == 1) = false := by simp; omega
      by_cases h2 : r8 = 2
      · subst h2
        go_wp2
        exact bodyPost_ret (v := .agg #[.bool i2, .bool !e2, .bool d2, .string s2]) (by simp [results, Try.results64, go_sem, k0, k1, k2, k3, q4, q5, c0, c1, c2, c3]) rfl (PWire.mk (by omega) (by
          repeat (refine Dr.set ?_ (by omega) (by omega) _ _)
          exact HV8.out.dr))
      have t2 : ((r8 : Int) == 2) = false := by simp; omega
      go_wp2_with (first
        | (go_at_call 47; refine (n_D HV8.out.dr 3 (by omega)).mono ?_; rintro e9 w9 ⟨r9, rfl, hr10, hD9, ho9⟩; have hr11 : r9 < 3 := (by omega))
        | (at_make; refine wpList_make_full _ rfl (.tmp 25) (.tmp 25) 22 rfl w9.heap.size 5 i0 (.int .u8 0) 1 Try.underlying22 hi hz0 hz1 .i64 .i64 _ _ (61 + r9) rfl rfl (by omega) (by omega) (by rw [hz2]; omega) (by unfold maxLen; omega) (Nat.le_refl _) ?_; intro w10 hown10 hgrow10; have HV10 : Hid _ := (HV8.out.grb hD9 ho9.grb).below (below_none hgrow10); obtain ⟨Z, hZ, hcv⟩ := zeros_conv hown10; clear hown10 hgrow10 c0 c1 c2 c3 cf k0 k1 k2 k3 kf; obtain ⟨c0, c1, c2, c3, cf⟩ := HV10.out.cellV; obtain ⟨k0, k1, k2, k3, kf⟩ := HV10.out.cellP))
      exact bodyPost_ret (v := .agg #[.bool i2, .bool e2, .bool d2, .string Z]) (by simp [results, Try.results64, go_sem, k0, k1, k2, k3, q4, q5, c0, c1, c2, c3]) rfl (PWire.mk (by omega) (by
        repeat (refine Dr.set ?_ (by omega) (by omega) _ _)
        exact HV10.out.dr))
    · exact bodyPost_ret (v := .agg #[.bool i2, .bool e2, .bool d2, .string s2]) (by simp [results, Try.results64, go_sem, k0, k1, k2, k3, q4, q5, c0, c1, c2, c3]) rfl (PWire.mk (by omega) (by
        repeat (refine Dr.set ?_ (by omega) (by omega) _ _)
        exact HV7.out.dr))
end Go.Proofs.Ytiaphaghjklhaaa
