/- THE WALKS of the model's draws: a number below a bound, a yes or no, some bytes, a number at an edge; each turns nothing but its own source. -/
import Derived.Test.YtineecongiplgaaProg
import Derived.Test.YtineecongiplgaaQpLaws
import Derived.WalkKit
import Derived.WalkSpells
import Derived.Outline
import Derived.Below
import Derived.Maps.AppendAt
namespace Go.Proofs.Ytineecongiplgaa
open Go.RowKit
set_option linter.unusedVariables false

/-- a source in block b over some bytes -/
def Src (b : Nat) (a : Option Addr) (len cap : Nat) (w : World) : Prop :=
  ∃ (i : Nat) (mix size : Int), i ≤ len ∧ 0 ≤ mix ∧ mix ≤ 18446744073709551615 ∧ w.cell? ⟨b, 0, none⟩ = some (.slice a len cap) ∧ w.cell? ⟨b, 1, none⟩ = some (.int .i64 i) ∧ w.cell? ⟨b, 2, none⟩ = some (.int .u64 mix) ∧ w.cell? ⟨b, 3, none⟩ = some (.int .i64 size) ∧ 0 ≤ size ∧ size ≤ 12 ∧ ∀ o, w.frozen? ⟨b, o, none⟩ = false
theorem Src.of_block {b : Nat} {a : Option Addr} {len cap : Nat} {w w' : World} (h : Src b a len cap w) (e : w'.heap[b]? = w.heap[b]?) : Src b a len cap w' := by
  obtain ⟨i, mix, size, h1, h2, h3, c0, c1, c2, c3, h4, h5, hf⟩ := h
  have hc : ∀ o, w'.cell? ⟨b, o, none⟩ = w.cell? ⟨b, o, none⟩ := fun o => World.cell?_of_block (a := ⟨b, o, none⟩) e
  have hz : ∀ o, w'.frozen? ⟨b, o, none⟩ = w.frozen? ⟨b, o, none⟩ := fun o => World.frozen?_of_block (a := ⟨b, o, none⟩) e
  exact ⟨i, mix, size, h1, h2, h3, (hc 0).trans c0, (hc 1).trans c1, (hc 2).trans c2, (hc 3).trans c3, h4, h5, fun o => (hz o).trans (hf o)⟩
/-- bytes below block number B that can be read -/
def Rb (B : Nat) (w : World) (a : Option Addr) (len : Nat) : Prop := len ≤ 1048576 ∧ (len = 0 ∨ ∃ g o, a = some ⟨g, o, none⟩ ∧ g < B ∧ ∀ i, i < len → ∃ v : Int, w.cell? ⟨g, o + i, none⟩ = some (.int .u8 v) ∧ 0 ≤ v ∧ v ≤ 255)
/-- what was there, but for block b, is as it was -/
structure Grb (b : Nat) (w w' : World) : Prop where
  os : w'.os = w.os
  tape : w'.tape = w.tape
  output : w'.output = w.output
  size : w.heap.size ≤ w'.heap.size
  block : ∀ k, k < w.heap.size → k ≠ b → w'.heap[k]? = w.heap[k]?
theorem Grb.refl (b : Nat) (w : World) : Grb b w w := ⟨rfl, rfl, rfl, Nat.le_refl _, fun _ _ _ => rfl⟩
theorem Only.grb {b : Nat} {w w' : World} (h : Only b w w') : Grb b w w' := ⟨h.os, h.tape, h.output, Nat.le_of_eq h.size.symm, fun k _ hk => h.block k hk⟩
theorem Grb.trans {b : Nat} {x y z : World} (h : Grb b x y) (k : Grb b y z) : Grb b x z := ⟨k.os.trans h.os, k.tape.trans h.tape, k.output.trans h.output, Nat.le_trans h.size k.size, fun i hi hb => (k.block i (Nat.lt_of_lt_of_le hi h.size) hb).trans (h.block i hi hb)⟩
theorem grb_of_below {b : Nat} {x y : World} (h : Below x.heap.size x y) : Grb b x y := ⟨h.os, h.tape, h.output, h.size, fun i hi _ => h.block i hi⟩
theorem Grb.below {b B : Nat} {x y : World} (h : Grb b x y) (hb : B ≤ b) (hB : B ≤ x.heap.size) : Below B x y := ⟨h.os, h.tape, h.output, h.size, fun k hk => h.block k (by omega) (by omega)⟩
theorem grb_step {b : Nat} {w x y : World} (h : Grb b w x) (k : Below w.heap.size x y) : Grb b w y := ⟨k.os.trans h.os, k.tape.trans h.tape, k.output.trans h.output, Nat.le_trans h.size k.size, fun i hi hb => (k.block i hi).trans (h.block i hi hb)⟩
theorem Rb.grb {b B : Nat} {x y : World} {a : Option Addr} {len : Nat} (h : Rb B x a len) (k : Grb b x y) (hb : B ≤ b) (hB : B ≤ x.heap.size) : Rb B y a len := by
  refine ⟨h.1, h.2.imp id ?_⟩
  rintro ⟨g, o, e, hg, hc⟩
  refine ⟨g, o, e, hg, fun i hi => ?_⟩
  obtain ⟨v, h1, h2⟩ := hc i hi
  exact ⟨v, (World.cell?_of_block (a := ⟨g, o + i, none⟩) (k.block g (by omega) (by omega))).trans h1, h2⟩

/-- a number below 'most' -/
theorem n_any (b B : Nat) (a : Option Addr) (len cap : Nat) (most : Int) (w : World) (h2 : most ≤ 1099511627776) (hs : Src b a len cap w) (hr : Rb B w a len) (hB : B ≤ b) :
    Calls Try.prog 45 #[.pointer (some ⟨b, 0, none⟩), .int .i64 most] w fun e w' => ∃ r : Nat, e = .returned (.int .i64 r) ∧ ((r : Int) < most ∨ r = 0) ∧ Src b a len cap w' ∧ Only b w w' := by
  by_cases h1 : most ≤ 1
  · refine (n_small _ most w h1).mono ?_
    rintro e w' ⟨rfl, rfl⟩
    exact ⟨0, rfl, .inr rfl, hs, Only.refl _ _⟩
  · obtain ⟨i, mix, size, hi, hm0, hm1, c0, c1, c2, c3, z0, z1, hf⟩ := hs
    have hl := hr.1
    by_cases hlt : i < len
    · obtain ⟨g, o, rfl, hg, hc⟩ := hr.2.resolve_left (by omega)
      obtain ⟨v, cv, hv0, hv1⟩ := hc i hlt
      refine (n_in b g o len cap i most mix v w (by omega) h2 hlt hm0 hm1 hl hv0 hv1 cv c0 c1 (hf 1) c2 (hf 2)).mono ?_
      rintro e w' ⟨r, m, rfl, r0, r1, m0, m1, t⟩
      obtain ⟨R, rfl⟩ := Int.eq_ofNat_of_zero_le r0
      obtain ⟨s1, s2, s3, s4⟩ := set1 (.int .i64 ((i : Int) + 1)) c1
      exact ⟨R, rfl, .inl r1, ⟨i + 1, m, size, hlt, m0, m1, (t.rest 0 (by decide)).trans ((s2 0 (by decide)).trans c0), (t.rest 1 (by decide)).trans s1, t.cell, (t.rest 3 (by decide)).trans ((s2 3 (by decide)).trans c3), z0, z1, fun o => (t.froz o).trans ((s3 o).trans (hf o))⟩, s4.trans t.only⟩
    · refine (n_out b a len cap most i mix w (by omega) h2 (by omega) (by omega) hm0 hm1 hl c0 c1 c2 (hf 2)).mono ?_
      rintro e w' ⟨r, m, rfl, r0, r1, m0, m1, t⟩
      obtain ⟨R, rfl⟩ := Int.eq_ofNat_of_zero_le r0
      exact ⟨R, rfl, .inl r1, ⟨i, m, size, hi, m0, m1, (t.rest 0 (by decide)).trans c0, (t.rest 1 (by decide)).trans c1, t.cell, (t.rest 3 (by decide)).trans c3, z0, z1, fun o => (t.froz o).trans (hf o)⟩, t.only⟩

/-- yes once of so many -/
theorem one_any (b B : Nat) (a : Option Addr) (len cap : Nat) (most : Int) (w : World) (h2 : most ≤ 1099511627776) (hs : Src b a len cap w) (hr : Rb B w a len) (hB : B ≤ b) :
    Calls Try.prog 44 #[.pointer (some ⟨b, 0, none⟩), .int .i64 most] w fun e w' => ∃ r : Bool, e = .returned (.bool r) ∧ Src b a len cap w' ∧ Only b w w' := by
  go_enter Try.func44, Try.ntmps44
  go_wp2_with (go_at_call 45; refine (n_any b B a len cap most _ h2 hs hr hB).mono ?_; rintro e w' ⟨r, rfl, hr1, hs1, ho1⟩)
  go_ret
  exact ⟨_, rfl, hs1, ho1⟩

theorem ownsRow_only {b : Nat} {w w' : World} {base : Nat} {e : TypeId} {v : Value} {n : Nat} {xs : List Value} (h : w.ownsRow base e 1 v n xs) (ho : Only b w w') (hb : b < base) : w'.ownsRow base e 1 v n xs := by
  obtain ⟨h1, h2⟩ := h
  refine ⟨h1, h2.imp id ?_⟩
  rintro ⟨g, cap, cur, e1, e2, e3, e4⟩
  exact ⟨g, cap, cur, e1, e2, (ho.block g (by omega)).trans e3, e4⟩
theorem info5d : (Try.prog.info? 5).map (fun i => (i.zero, i.size, i.bytes)) = some (some (.int .u8 0), 1, 1) := by kernel_rfl
def cellsD (l : List UInt8) : List Value := l.map fun b => Value.int .u8 (b.toNat : Int)
theorem cellsD_snoc (l : List UInt8) (r : Nat) (h : r < 256) : cellsD l ++ [Value.int .u8 (r : Int)] = cellsD (l ++ [UInt8.ofNat r]) := by
  unfold cellsD
  rw [List.map_append]
  congr 1
  simp only [List.map_cons, List.map_nil]
  rw [show (UInt8.ofNat r).toNat = r by rw [UInt8.toNat_ofNat']; omega]
theorem own_convD {P : Program} {w : World} {base : Nat} {v : Value} {l : List UInt8} (src e dst : TypeId) (hs : P.underlying src = some (.slice e)) (he : P.underlying e = some (.int .u8)) (hd : P.underlying dst = some .string)
    (h : w.ownsRow base e 1 v l.length (cellsD l)) : (convert src dst v).run P w = .ok (.string ⟨l.toArray⟩) w := by
  obtain ⟨_, ⟨rfl, h0⟩ | ⟨g, cap, cur, rfl, _, hg, _, _, _, ht⟩⟩ := h
  · obtain rfl : l = [] := List.eq_nil_of_length_eq_zero h0
    rw [run_convert_bytes_string w src dst e none 0 0 hs he hd]
    simp [Conv.bytesToString, Sem.run_pure]
    rfl
  · have hz : (⟨l.toArray⟩ : ByteArray).size = l.length := by simp [ByteArray.size]
    have hc : cellsB ⟨l.toArray⟩ = cellsD l := by simp [cellsB, cellsD]
    have := Lib.run_convert_whole w src e dst hs he hd g 0 ⟨l.toArray⟩ (bytes_of_cells (cs := cur.toList) _ (by simpa using hg) (by rw [hz, hc]; simpa using ht)) cap
    rw [hz] at this
    exact this

def edges : List Int := [0, 1, -1, 2, 1000, 1001, 2147483648, 2147483647, -2147483648, 4611686018427387904, 9223372036854775807, -9223372036854775808, 1000000, 1000001]
theorem edges_wf (r : Nat) (h : r < 14) : (Lit.int .i64 (edges[r]?.getD 0)).wf = true := by
  have : ∀ k : Fin 14, (Lit.int .i64 (edges[k.val]?.getD 0)).wf = true := by decide
  exact this ⟨r, h⟩
theorem edges_cells (r : Nat) (h : r < 14) (w : World) (t : TypeId) : (w.alloc (.cells (edges.map (Value.int .i64)).toArray t)).cell? ⟨w.heap.size, r, none⟩ = some (.int .i64 (edges.getD r 0)) := by
  have hl : r < edges.length := h
  have hn := heap_alloc_new w (.cells (edges.map (Value.int .i64)).toArray t)
  simp only [World.cell?, hn]
  simp [hl]
theorem wr_u64_nonneg (x : Int) : 0 ≤ IntKind.u64.wrap x := by rw [IntKind.wrap_u64]; omega
theorem wr_u64_le (x : Int) : IntKind.u64.wrap x ≤ 18446744073709551615 := by rw [IntKind.wrap_u64]; omega
set_option maxRecDepth 100000 in
set_option maxHeartbeats 1600000 in
/-- a source over bytes -/
theorem source_any (B : Nat) (a : Option Addr) (len cap : Nat) (w : World) (hr : Rb B w a len) (hB : B ≤ w.heap.size) :
    Calls Try.prog 39 #[.slice a len cap] w fun e w' => e = .returned (.pointer (some ⟨w.heap.size, 0, none⟩)) ∧ Src w.heap.size a len cap w' ∧ Below w.heap.size w w' ∧ w.heap.size < w'.heap.size := by
  have hlen := hr.1
  go_enter Try.func39, Try.ntmps39
  go_wp2
  go_loopw [4] (fun i wr => ∃ (k : Nat) (mix : Int), i = .int .i64 k ∧ k ≤ len ∧ k ≤ 64 ∧ 0 ≤ mix ∧ mix ≤ 18446744073709551615 ∧ Hid (wr.heap[w.heap.size]? = some (.cells #[.slice a len cap, .int .i64 0, .int .u64 mix, .int .i64 0] 113 (0, 0))) ∧ Below w.heap.size w wr ∧ w.heap.size < wr.heap.size)
    (fun i _ => 64 - (intOf i).toNat)
  case atStart => exact ⟨0, 88172645463325252, rfl, by omega, by omega, by omega, by omega, heap_alloc_new w _, (Below.refl _ _).alloc (Nat.le_refl _) _, by simp⟩
  case round =>
    obtain ⟨k, mix, rfl, hk, hk64, hm0, hm1, HG, hbl, hsz⟩ := hrel
    have hc : ∀ o v, #[Value.slice a len cap, .int .i64 0, .int .u64 mix, .int .i64 0][o]? = some v → wr.cell? ⟨w.heap.size, o, none⟩ = some v := fun o v h => by simp only [World.cell?, HG.out]; simpa using h
    have c2 := hc 2 _ rfl
    have c3 := hc 3 _ rfl
    have hf : ∀ o, wr.frozen? ⟨w.heap.size, o, none⟩ = false := fun o => by simp [World.frozen?, HG.out]
    have f2 := hf 2
    have f3 := hf 3
    have hcs : Hid _ := hc
    have hfs : Hid _ := hf
    clear hc hf
    by_cases hlt : k < len ∧ k < 64
    · obtain ⟨hl1, hl2⟩ := hlt
      obtain ⟨g, o, rfl, hg, hcc⟩ := hr.2.resolve_left (by omega)
      obtain ⟨v, cv, hv0, hv1⟩ := hcc k hl1
      have cv' : wr.cell? ⟨g, o + k, none⟩ = some (.int .u8 v) := (hbl.cell (p := ⟨g, o + k, none⟩) (show g < w.heap.size by omega)).trans cv
      clear hcc cv hr
      go_wp2
      go_region
      obtain ⟨m2, hm2⟩ : ∃ m, m = IntKind.u64.wrap (bits BinOp.xor IntKind.u64 mix v * 1099511628211) := ⟨_, rfl⟩
      have L2 := wr_u64_nonneg (bits BinOp.xor IntKind.u64 mix v * 1099511628211)
      have U2 := wr_u64_le (bits BinOp.xor IntKind.u64 mix v * 1099511628211)
      rw [← hm2] at L2 U2 ⊢
      clear hm2
      have HG2 : Hid ((wr.setCell ⟨w.heap.size, 2, none⟩ (.int .u64 m2)).heap[w.heap.size]? = some (.cells #[.slice (some ⟨g, o, none⟩) len cap, .int .i64 0, .int .u64 m2, .int .i64 0] 113 (0, 0))) :=
        set_at (cs := [.slice (some ⟨g, o, none⟩) len cap, .int .i64 0, .int .u64 mix, .int .i64 0]) 2 (.int .u64 m2) HG.out
      have hbl2 := hbl.setCell (p := ⟨w.heap.size, 2, none⟩) (Nat.le_refl _) (.int .u64 m2)
      clear c2 c3 f2 f3 cv'
      go_wp2
      go_roundw
      case rel => exact ⟨k + 1, m2, by go_num, by omega, by omega, L2, U2, HG2.out, hbl2.drew, by simpa [World.setCell] using hsz⟩
      case measure => simp [intOf]; omega
    · have hend : len ≤ k ∨ (k < len ∧ 64 ≤ k) := by omega
      clear hlt hr
      have fin : ∀ (W : World) (size : Int), W.heap[w.heap.size]? = some (.cells #[.slice a len cap, .int .i64 0, .int .u64 mix, .int .i64 size] 113 (0, 0)) → 0 ≤ size → size ≤ 12 → Src w.heap.size a len cap W := by
        intro W size hG h0 h1
        have hc : ∀ o v, #[Value.slice a len cap, .int .i64 0, .int .u64 mix, .int .i64 size][o]? = some v → W.cell? ⟨w.heap.size, o, none⟩ = some v := fun o v h => by simp only [World.cell?, hG]; simpa using h
        exact ⟨0, mix, size, by omega, hm0, hm1, hc 0 _ rfl, hc 1 _ rfl, hc 2 _ rfl, hc 3 _ rfl, h0, h1, fun o => by simp [World.frozen?, hG]⟩
      have FIN : Hid _ := fin
      clear fin
      by_cases hbig : 12 < (len : Int) / 20
      · rcases hend with hend | ⟨he1, he2⟩
        · exact absurd hbig (by omega)
        · go_wp2
          go_ret
          refine ⟨rfl, FIN.out _ 12 (set_at (cs := [.slice a len cap, .int .i64 0, .int .u64 mix, .int .i64 ((len : Int) / 20)]) 3 (.int .i64 12) (set_at (cs := [.slice a len cap, .int .i64 0, .int .u64 mix, .int .i64 0]) 3 (.int .i64 ((len : Int) / 20)) HG.out)) (by omega) (by omega), ((hbl.setCell (Nat.le_refl _) _).setCell (Nat.le_refl _) _), by simpa [World.setCell] using hsz⟩
      · have hsm : (len : Int) / 20 ≤ 12 := by omega
        have hsp : 0 ≤ (len : Int) / 20 := by omega
        rcases hend with hend | ⟨he1, he2⟩
        all_goals
          go_wp2
          go_ret
          refine ⟨rfl, FIN.out _ ((len : Int) / 20) (set_at (cs := [.slice a len cap, .int .i64 0, .int .u64 mix, .int .i64 0]) 3 (.int .i64 ((len : Int) / 20)) HG.out) hsp hsm, (hbl.setCell (Nat.le_refl _) _), by simpa [World.setCell] using hsz⟩
end Go.Proofs.Ytineecongiplgaa
