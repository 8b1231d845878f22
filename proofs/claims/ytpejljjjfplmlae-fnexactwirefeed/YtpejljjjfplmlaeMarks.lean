/- THE WALKS of the law's own marks: texts that are put into an answer's list and looked for again; lists of texts held against each other. -/
import Derived.Test.YtpejljjjfplmlaeProg
import Derived.Test.YtpejljjjfplmlaePlain
import Derived.Test.YtpejljjjfplmlaeLaws
import Derived.Test.YtpejljjjfplmlaeKeep
import Derived.Test.YtpejljjjfplmlaeOwnM
import Derived.Test.YtpejljjjfplmlaePlainFrame
import Derived.WalkKit
import Derived.WalkSpells
import Derived.Outline
import Derived.Below
import Derived.Deep.RegionHeld3
import Derived.Deep.QuietTactic
import Derived.BigQuiet
namespace Go.Proofs.Ytpejljjjfplmlae
open Go.RowKit
set_option linter.unusedVariables false
set_option linter.unusedSimpArgs false

def digsN (n : Nat) : List UInt8 := if h : n = 0 then [] else digsN (n / 10) ++ [UInt8.ofNat (48 + n % 10)]
termination_by n
decreasing_by omega
theorem digsN_pos {n : Nat} (h : 0 < n) : digsN n = digsN (n / 10) ++ [UInt8.ofNat (48 + n % 10)] := by rw [digsN, dif_neg (by omega)]
theorem digsN_zero : digsN 0 = [] := by rw [digsN, dif_pos rfl]
theorem digsN_len (n : Nat) : (digsN n).length ≤ n := by
  induction n using Nat.strongRecOn with
  | _ n ih =>
    rcases Nat.eq_zero_or_pos n with rfl | h
    · rw [digsN_zero]; simp
    · rw [digsN_pos h, List.length_append]
      have := ih (n / 10) (by omega)
      simp only [List.length_cons, List.length_nil]
      omega
/-- the mark of a number from 1 on -/
def markB (n : Nat) : ByteArray := bytesOf ([109] ++ digsN n)
theorem digit_conv (w : World) (n : Nat) : (convert 47 9 (.slice (some ⟨w.heap.size, 0, none⟩) 1 1)).run Try.prog (w.alloc (.cells #[.int .u8 (48 + (n : Int) % 10)] 5)) = .ok (.string (bytesOf [UInt8.ofNat (48 + n % 10)])) (w.alloc (.cells #[.int .u8 (48 + (n : Int) % 10)] 5)) := by
  have hc : cellsB (bytesOf [UInt8.ofNat (48 + n % 10)]) = [.int .u8 (48 + (n : Int) % 10)] := by
    simp only [cellsB, bytesOf, List.map_cons, List.map_nil]
    rw [show (UInt8.ofNat (48 + n % 10)).toNat = 48 + n % 10 by rw [UInt8.toNat_ofNat']; omega]
    rfl
  have h := Lib.run_convert_whole (P := Try.prog) (w.alloc (.cells [.int .u8 (48 + (n : Int) % 10)].toArray 5)) 47 5 9 Try.underlying47 Try.underlying5 Try.underlying9 w.heap.size 0 (bytesOf [UInt8.ofNat (48 + n % 10)]) (bytes_of_cells (bytesOf [UInt8.ofNat (48 + n % 10)]) (heap_alloc_new w _) (by rw [hc, bytesOf_size]; rfl)) 1
  rw [bytesOf_size] at h
  exact h
set_option maxRecDepth 100000 in
set_option maxHeartbeats 800000 in
theorem markText_any (K : Nat) (w : World) (h1 : 0 < K) (h2 : K ≤ 100000) :
    Calls Try.prog 53 #[.int .i64 K] w fun e w' => e = .returned (.string (markB K)) ∧ Below w.heap.size w w' := by
  go_enter Try.func53, Try.ntmps53
  go_wp2
  go_loopw [0, 3] (fun x t wr => ∃ (n : Nat) (s : ByteArray), n ≤ K ∧ x = .int .i64 n ∧ t = .string s ∧ s.size ≤ 100000 ∧ Hid (digsN n ++ s.data.toList = digsN K) ∧ Below w.heap.size w wr)
    (fun x _ _ => (intOf x).toNat)
  case atStart => exact ⟨K, ByteArray.empty, Nat.le_refl _, rfl, rfl, by simp, by simp [Hid], Below.refl _ _⟩
  case round =>
    obtain ⟨n, s, hn, rfl, rfl, hs, HL, hbel⟩ := hrel
    have hsz := hbel.size
    by_cases hlt : 0 < n
    · have hcv := digit_conv wr n
      have HD : Hid _ := digsN_pos hlt
      have hle : s.size + 1 ≤ 100000 := by
        have h3 := congrArg List.length HL.out
        have h4 := digsN_len K
        rw [List.length_append, list_length, digsN_pos hlt, List.length_append, List.length_singleton] at h3
        omega
      have hz1 : (bytesOf [UInt8.ofNat (48 + n % 10)]).size = 1 := bytesOf_size _
      have HA : Hid _ := bytesOf_list [UInt8.ofNat (48 + n % 10)]
      generalize bytesOf [UInt8.ofNat (48 + n % 10)] = D at hcv hz1 HA
      go_wp2
      go_roundw
      case rel => exact ⟨n / 10, D ++ s, by omega, by go_num, rfl, by rw [ByteArray.size_append]; omega, (show _ = _ by rw [list_append, HA.out, ← List.append_assoc, ← HD.out]; exact HL.out), hbel.alloc hsz _⟩
      case measure => simp [intOf]; omega
    · have hz1 : (bytesOf [109]).size = 1 := bytesOf_size _
      have e : markB K = bytesOf [109] ++ s := by
        unfold markB
        rw [← bytesOf_append, ← HL.out, show n = 0 by omega, digsN_zero, List.nil_append, bytesOf_data]
      have he : Hid _ := e
      clear e
      go_wp2
      go_ret
      exact ⟨by rw [he.out]; rfl, hbel⟩

/-- a list of texts that a call made for itself -/
def OwnS (w : World) (base : Nat) (v : Value) (ss : List ByteArray) : Prop := w.ownsRow base 9 1 v ss.length (ss.map Value.string)
theorem OwnS.shape {w : World} {base : Nat} {v : Value} {ss : List ByteArray} (h : OwnS w base v ss) : ∃ a cap, v = .slice a ss.length cap := by
  obtain ⟨_, ⟨rfl, h0⟩ | ⟨g, cap, cur, rfl, _⟩⟩ := h
  · rw [h0]; exact ⟨_, _, rfl⟩
  · exact ⟨_, _, rfl⟩
theorem OwnS.cell {w : World} {base : Nat} {a : Option Addr} {n cap : Nat} {ss : List ByteArray} (h : OwnS w base (.slice a n cap) ss) (k : Nat) (hk : k < ss.length) : ∃ g, a = some ⟨g, 0, none⟩ ∧ base ≤ g ∧ g < w.heap.size ∧ w.cell? ⟨g, k, none⟩ = some (.string ss[k]) ∧ w.frozen? ⟨g, k, none⟩ = false := by
  obtain ⟨_, ⟨h1, h0⟩ | ⟨g, cap, cur, h1, hb, hg, _, _, _, ht⟩⟩ := h
  · omega
  · cases h1
    have hg' := (Array.getElem?_eq_some_iff.1 hg).1
    have e : cur[k]? = some (.string ss[k]) := by
      have : (cur.toList.take (ss.length * 1))[k]? = some (.string ss[k]) := by rw [ht, List.getElem?_map, List.getElem?_eq_getElem hk]; rfl
      rw [List.getElem?_take_of_lt (by omega)] at this
      simpa using this
    exact ⟨g, rfl, hb, hg', by simp [World.cell?, hg, e], by simp [World.frozen?, hg]⟩
theorem OwnS.below {w w' : World} {base : Nat} {v : Value} {ss : List ByteArray} (h : OwnS w base v ss) (hb : Below w.heap.size w w') : OwnS w' base v ss := by
  refine ⟨h.1, h.2.imp id ?_⟩
  rintro ⟨g, cap, cur, e1, e2, e3, e4⟩
  exact ⟨g, cap, cur, e1, e2, (hb.block g (Array.getElem?_eq_some_iff.1 e3).1).trans e3, e4⟩
set_option maxRecDepth 100000 in
set_option maxHeartbeats 800000 in
theorem eqStringS_same (b1 b2 : Nat) (v1 v2 : Value) (ss : List ByteArray) (w : World) (hl : ss.length ≤ 100000) (h1 : OwnS w b1 v1 ss) (h2 : OwnS w b2 v2 ss) :
    Calls Try.prog 45 #[v1, v2] w fun e w' => e = .returned (.bool true) ∧ Below w.heap.size w w' := by
  obtain ⟨p1, c1, rfl⟩ := h1.shape
  obtain ⟨p2, c2, rfl⟩ := h2.shape
  have e0 : ((ss.length : Int) != (ss.length : Int)) = false := by simp
  have H1 : Hid _ := fun W hW => (OwnS.below (w' := W) h1 hW).cell
  have H2 : Hid _ := fun W hW => (OwnS.below (w' := W) h2 hW).cell
  clear h1 h2
  go_enter Try.func45, Try.ntmps45
  go_wp2
  go_loopw [5] (fun i wr => ∃ k : Nat, k ≤ ss.length ∧ i = .int .i64 k ∧ Below w.heap.size w wr) (fun i _ => ss.length - (intOf i).toNat)
  case atStart => exact ⟨0, Nat.zero_le _, rfl, Below.refl _ _⟩
  case round =>
    obtain ⟨k, hk, rfl, hbel⟩ := hrel
    by_cases hlt : k < ss.length
    · obtain ⟨g1, rfl, _, _, q1, _⟩ := H1.out wr hbel k hlt
      obtain ⟨g2, rfl, _, _, q2, _⟩ := H2.out wr hbel k hlt
      have es : (ss[k].toList == ss[k].toList) = true := by simp
      go_wp2
      go_quiet (fail)
      go_wp2
      go_roundw
      case rel => exact ⟨k + 1, by omega, by go_num, hbel.trans ((Below.refl _ wr).trans ⟨rfl, rfl, rfl, Nat.le_refl _, fun _ _ => rfl⟩)⟩
      case measure => simp [intOf]; omega
    · go_wp2
      go_ret
      exact ⟨rfl, hbel⟩
end Go.Proofs.Ytpejljjjfplmlae
