/- PLAIN: a number's bytes, seven bits a byte; nothing of the program. -/
import Derived.Test.YtklpaleghanhhaaQdKeep
import Derived.Test.YtklpaleghanhhaaQdPlainTb
import Derived.OpenShut
namespace Go.Proofs.Ytklpaleghanhhaa
open Go.RowKit

def foldN (n : Int) : Nat := if 0 ≤ n then (2 * n).toNat else (-2 * n - 1).toNat
def putU (u : Nat) : List UInt8 := if u < 128 then [UInt8.ofNat u] else UInt8.ofNat (u % 128 + 128) :: putU (u / 128)
termination_by u
decreasing_by omega
theorem putU_lo {u : Nat} (h : u < 128) : putU u = [UInt8.ofNat u] := by rw [putU, if_pos h]
theorem putU_hi {u : Nat} (h : 128 ≤ u) : putU u = UInt8.ofNat (u % 128 + 128) :: putU (u / 128) := by rw [putU, if_neg (by omega)]
theorem putU_len (k : Nat) : ∀ u, u < 128 ^ (k + 1) → (putU u).length ≤ k + 1 := by
  induction k with
  | zero => intro u h; rw [putU_lo (by simpa using h)]; simp
  | succ k ih =>
    intro u h
    by_cases h1 : u < 128
    · rw [putU_lo h1]; simp
    · rw [putU_hi (by omega)]
      have : u / 128 < 128 ^ (k + 1) := by rw [Nat.div_lt_iff_lt_mul (by decide)]; rw [Nat.pow_succ] at h; exact h
      have := ih _ this
      simp; omega
theorem putU_len10 {u : Nat} (h : u < 18446744073709551616) : (putU u).length ≤ 10 := putU_len 9 u (by omega)
theorem putU_pos (u : Nat) : 0 < (putU u).length := by
  by_cases h : u < 128
  · rw [putU_lo h]; simp
  · rw [putU_hi (by omega)]; simp
def putB (n : Int) : ByteArray := ⟨(putU (foldN n)).toArray⟩
theorem putB_size (n : Int) : (putB n).size = (putU (foldN n)).length := by simp [putB, ByteArray.size]
theorem foldN_pos {n : Int} (h : 0 ≤ n) : (foldN n : Int) = 2 * n := by unfold foldN; rw [if_pos h]; omega
theorem foldN_neg {n : Int} (h : n < 0) : (foldN n : Int) = 2 * -(n + 1) + 1 := by unfold foldN; rw [if_neg (by omega)]; omega
theorem foldN_lt {n : Int} (h : (Lit.int .i64 n).wf = true) : foldN n < 18446744073709551616 := by
  have := bounds_i64 h
  unfold foldN; split <;> omega
/-- the cells of some bytes -/
def cellsL (l : List UInt8) : List Value := l.map fun b => Value.int .u8 (b.toNat : Int)
theorem cellsL_length (l : List UInt8) : (cellsL l).length = l.length := by simp [cellsL]
theorem cellsL_append (l m : List UInt8) : cellsL (l ++ m) = cellsL l ++ cellsL m := by simp [cellsL]
theorem cellsB_putB (n : Int) : cellsB (putB n) = cellsL (putU (foldN n)) := by simp [cellsB, cellsL, putB]
theorem hi_byte (u : Nat) : (UInt8.ofNat (u % 128 + 128)).toNat = u % 128 + 128 := by
  rw [UInt8.toNat_ofNat']; omega
theorem lo_byte {u : Nat} (h : u < 128) : (UInt8.ofNat u).toNat = u := by
  rw [UInt8.toNat_ofNat']; omega
theorem step_hi {u : Nat} (pre : List UInt8) : cellsL pre ++ [Value.int .u8 ((u : Int) % 128 + 128)] = cellsL (pre ++ [UInt8.ofNat (u % 128 + 128)]) := by
  rw [cellsL_append]
  congr 1
  simp only [cellsL, List.map_cons, List.map_nil, hi_byte]
  congr 2
theorem step_lo {u : Nat} (h : u < 128) (pre : List UInt8) : cellsL pre ++ [Value.int .u8 (u : Int)] = cellsL (pre ++ [UInt8.ofNat u]) := by
  rw [cellsL_append]
  congr 1
  simp only [cellsL, List.map_cons, List.map_nil, lo_byte h]
theorem next_hi {u : Nat} {pre all : List UInt8} (h : 128 ≤ u) (hp : pre ++ putU u = all) : (pre ++ [UInt8.ofNat (u % 128 + 128)]) ++ putU (u / 128) = all := by
  rw [← hp, putU_hi h]; simp
theorem own_hi {w : World} {base : Nat} {e : TypeId} {v : Value} {u : Nat} {pre : List UInt8} (h : w.ownsRow base e 1 v (pre.length + 1) (cellsL pre ++ [Value.int .u8 ((u : Int) % 128 + 128)])) :
    w.ownsRow base e 1 v (pre ++ [UInt8.ofNat (u % 128 + 128)]).length (cellsL (pre ++ [UInt8.ofNat (u % 128 + 128)])) := by
  rw [← step_hi, List.length_append]; exact h
theorem own_last {w : World} {base : Nat} {e : TypeId} {v : Value} {u : Nat} {pre : List UInt8} {n : Int} (h1 : u < 128) (hp : pre ++ putU u = putU (foldN n))
    (h : w.ownsRow base e 1 v (pre.length + 1) (cellsL pre ++ [Value.int .u8 (u : Int)])) : w.ownsRow base e 1 v (putB n).size (cellsB (putB n)) := by
  rw [cellsB_putB, putB_size, ← hp, putU_lo h1, ← step_lo h1, List.length_append]; exact h
theorem own_conv {P : Program} {w : World} {base : Nat} {v : Value} {s : ByteArray} (src e dst : TypeId) (hs : P.underlying src = some (.slice e)) (he : P.underlying e = some (.int .u8)) (hd : P.underlying dst = some .string)
    (h : w.ownsRow base e 1 v s.size (cellsB s)) (hpos : 0 < s.size) :
    ∃ g cap, v = .slice (some ⟨g, 0, none⟩) s.size cap ∧ (convert src dst (.slice (some ⟨g, 0, none⟩) s.size cap)).run P w = .ok (.string s) w := by
  obtain ⟨_, ⟨rfl, h0⟩ | ⟨g, cap, cur, rfl, _, hg, _, _, _, ht⟩⟩ := h
  · omega
  · exact ⟨g, cap, rfl, Lib.run_convert_whole w src e dst hs he hd g 0 s (bytes_of_cells (cs := cur.toList) s (by simpa using hg) (by simpa using ht)) cap⟩
theorem last_size {u : Nat} {pre : List UInt8} {n : Int} (h1 : u < 128) (hp : pre ++ putU u = putU (foldN n)) : (putB n).size = pre.length + 1 := by
  rw [putB_size, ← hp, putU_lo h1, List.length_append]; rfl
theorem last_cells {u : Nat} {pre : List UInt8} {n : Int} (h1 : u < 128) (hp : pre ++ putU u = putU (foldN n)) : cellsB (putB n) = cellsL pre ++ [Value.int .u8 (u : Int)] := by
  rw [cellsB_putB, ← hp, putU_lo h1, ← step_lo h1]
theorem putB_pos (n : Int) : 0 < (putB n).size := by rw [putB_size]; exact putU_pos _
end Go.Proofs.Ytklpaleghanhhaa
/- PLAIN: a number that was put is got at its place; of bytes that end too early nothing is got; the same for a text. -/
namespace Go.Proofs.Ytklpaleghanhhaa
open Go.RowKit

theorem unfold_fold (n : Int) : unfoldZ (foldN n) = n := by
  unfold unfoldZ foldN
  split <;> split <;> omega
theorem byteAt_mid {s : ByteArray} {pre post : List UInt8} {b : UInt8} (h : s.data.toList = pre ++ b :: post) : byteAt s pre.length = b.toNat := by
  unfold byteAt
  rw [h, List.getD_eq_getElem?_getD, List.getElem?_append_right (Nat.le_refl _)]
  simp
theorem size_mid {s : ByteArray} {l : List UInt8} (h : s.data.toList = l) : s.size = l.length := by
  rw [← h, Array.length_toList]; rfl
theorem step_pow (v k : Nat) : v % 128 * 2 ^ (7 * k) + v / 128 * 2 ^ (7 * (k + 1)) = v * 2 ^ (7 * k) := by
  have e : 2 ^ (7 * (k + 1)) = 128 * 2 ^ (7 * k) := by rw [show 7 * (k + 1) = 7 + 7 * k by omega, Nat.pow_add]
  rw [e, ← Nat.mul_assoc, ← Nat.add_mul]
  congr 1
  omega
theorem nine {v k : Nat} (h : v * 2 ^ (7 * k) < 18446744073709551616) (hk : k = 9) : v < 2 := by
  subst hk
  rw [show 2 ^ (7 * 9) = 9223372036854775808 by decide] at h
  omega
theorem ten {v k : Nat} (h : v * 2 ^ (7 * k) < 18446744073709551616) (hv : 0 < v ∨ k = 0) (hk : 10 ≤ k) : False := by
  have h1 : 2 ^ 70 ≤ 2 ^ (7 * k) := Nat.pow_le_pow_right (by decide) (by omega)
  have h2 : 1 * 2 ^ 70 ≤ v * 2 ^ (7 * k) := Nat.mul_le_mul (by omega) h1
  omega
theorem next_ok {v k : Nat} (h : v * 2 ^ (7 * k) < 18446744073709551616) : v / 128 * 2 ^ (7 * (k + 1)) < 18446744073709551616 := by
  have := step_pow v k
  omega
theorem getG_put (s : ByteArray) (m : Nat) : ∀ (k u v : Nat) (pre post : List UInt8), k + m = 10 → v * 2 ^ (7 * k) < 18446744073709551616 → (0 < v ∨ k = 0) → s.data.toList = pre ++ (putU v ++ post) →
    getG s m pre.length k u = (unfoldZ (u + v * 2 ^ (7 * k)), ((pre.length + (putU v).length : Nat) : Int), 0) := by
  induction m with
  | zero => intro k u v pre post hk hv h0 hs; exact (ten hv h0 (by omega)).elim
  | succ m ih =>
    intro k u v pre post hk hv h0 hs
    by_cases hlo : v < 128
    · rw [putU_lo hlo] at hs ⊢
      have hb := byteAt_mid hs
      have hz := size_mid hs
      simp at hz
      rw [lo_byte hlo] at hb
      rw [getG, if_neg (by omega), hb, if_neg (by intro h; have := nine hv h.1; omega), if_pos hlo, if_neg (by omega)]
      simp
    · rw [putU_hi (by omega)] at hs ⊢
      have hb := byteAt_mid (s := s) (pre := pre) (post := putU (v / 128) ++ post) (b := UInt8.ofNat (v % 128 + 128)) (by rw [hs]; simp)
      have hz := size_mid hs
      simp at hz
      rw [hi_byte] at hb
      have := ih (k + 1) (u + v % 128 * 2 ^ (7 * k)) (v / 128) (pre ++ [UInt8.ofNat (v % 128 + 128)]) post (by omega) (next_ok hv) (.inl (by omega)) (by rw [hs]; simp)
      rw [getG, if_neg (by omega), hb, if_neg (by intro h; have := nine hv h.1; omega), if_neg (by omega), show (v % 128 + 128) % 128 = v % 128 by omega]
      rw [List.length_append, List.length_singleton] at this
      rw [this, Nat.add_assoc, step_pow, List.length_cons]
      congr 2
      omega
theorem getG_cut (s : ByteArray) (m : Nat) : ∀ (k u v : Nat) (pre q : List UInt8), k + m = 10 → v * 2 ^ (7 * k) < 18446744073709551616 → (0 < v ∨ k = 0) → s.data.toList = pre ++ q → (∃ r, r ≠ [] ∧ q ++ r = putU v) →
    getG s m pre.length k u = (0, 0, 4) := by
  induction m with
  | zero => intro k u v pre q hk hv h0 hs hr; exact (ten hv h0 (by omega)).elim
  | succ m ih =>
    rintro k u v pre q hk hv h0 hs ⟨r, hr, hq⟩
    have hz := size_mid hs
    simp at hz
    cases q with
    | nil => rw [getG, if_pos (by simp at hz; omega)]
    | cons b q =>
      by_cases hlo : v < 128
      · rw [putU_lo hlo] at hq
        simp at hq
        exact absurd hq.2.2 hr
      · rw [putU_hi (by omega), List.cons_append] at hq
        have hq := List.cons.inj hq
        simp at hz
        have hb := byteAt_mid hs
        rw [hq.1, hi_byte] at hb
        have := ih (k + 1) (u + v % 128 * 2 ^ (7 * k)) (v / 128) (pre ++ [b]) q (by omega) (next_ok hv) (.inl (by omega)) (by rw [hs]; simp) ⟨r, hr, hq.2⟩
        rw [getG, if_neg (by omega), hb, if_neg (by intro h; have := nine hv h.1; omega), if_neg (by omega), show (v % 128 + 128) % 128 = v % 128 by omega]
        rw [List.length_append, List.length_singleton] at this
        exact this
theorem putB_list (n : Int) : (putB n).data.toList = putU (foldN n) := by simp [putB]
theorem putB_le10 {n : Int} (h : (Lit.int .i64 n).wf = true) : (putB n).size ≤ 10 := by rw [putB_size]; exact putU_len10 (foldN_lt h)
/-- a number that was put is got at its place -/
theorem getR_put {s : ByteArray} {n : Int} {pre post : List UInt8} (hn : (Lit.int .i64 n).wf = true) (hz : s.size ≤ 8000) (hs : s.data.toList = pre ++ ((putB n).data.toList ++ post)) :
    getR s (pre.length : Int) = (n, ((pre.length + (putB n).size : Nat) : Int), 0) := by
  unfold getR
  rw [putB_list] at hs
  rw [if_neg (by omega), if_neg (by omega), Int.toNat_natCast, getG_put s 10 0 0 (foldN n) pre post (by omega) (by have := foldN_lt hn; simpa using this) (.inr rfl) hs, putB_size]
  simp [unfold_fold]
/-- of bytes that end too early nothing is got -/
theorem getR_cut {s : ByteArray} {n : Int} {pre q : List UInt8} (hn : (Lit.int .i64 n).wf = true) (hz : s.size ≤ 8000) (hs : s.data.toList = pre ++ q) (hq : ∃ r, r ≠ [] ∧ q ++ r = (putB n).data.toList) :
    getR s (pre.length : Int) = (0, 0, 4) := by
  unfold getR
  rw [putB_list] at hq
  rw [if_neg (by omega), if_neg (by omega), Int.toNat_natCast]
  exact getG_cut s 10 0 0 (foldN n) pre q (by omega) (by have := foldN_lt hn; simpa using this) (.inr rfl) hs hq
theorem cut_last {l : List UInt8} (h : 0 < l.length) : ∃ r, r ≠ [] ∧ l.take (l.length - 1) ++ r = l :=
  ⟨l.drop (l.length - 1), by intro e; have := congrArg List.length e; simp at this; omega, List.take_append_drop _ _⟩
theorem getR_front {n : Int} (s : ByteArray) (x y z : UInt8) (hn : (Lit.int .i64 n).wf = true) (hs : s.data.toList = x :: y :: ((putB n).data.toList ++ [z])) : getR s 2 = (n, ((putB n).size : Int) + 2, 0) := by
  have hz := size_mid hs
  have hl := putB_le10 hn
  have e : (putB n).data.toList.length = (putB n).size := by rw [Array.length_toList]; rfl
  simp only [List.length_cons, List.length_append, List.length_nil, e] at hz
  have := getR_put (s := s) (pre := [x, y]) (post := [z]) hn (by omega) (by rw [hs]; rfl)
  rw [show (2 : Int) = (([x, y] : List UInt8).length : Int) from rfl, this]
  simp
  omega
theorem getR_less {n : Int} (s : ByteArray) (hn : (Lit.int .i64 n).wf = true) (hs : s.data.toList = (putB n).data.toList.take ((putB n).size - 1)) : getR s 0 = (0, 0, 4) := by
  have hz := size_mid hs
  have hl := putB_le10 hn
  have hp := putB_pos n
  have e : (putB n).data.toList.length = (putB n).size := by rw [Array.length_toList]; rfl
  rw [List.length_take, e] at hz
  exact getR_cut (s := s) (pre := []) hn (by omega) (by rw [hs]; rfl) (by have := cut_last (l := (putB n).data.toList) (by omega); rw [e] at this; exact this)
theorem size_wf {u : ByteArray} (h : u.size ≤ 8000) : (Lit.int .i64 (u.size : Int)).wf = true := by
  simp [Lit.wf, IntKind.min, IntKind.max, IntKind.signed, IntKind.bits]; omega
/-- a text that was put is got at its place -/
theorem getT_front (u s : ByteArray) (x : UInt8) (hu : u.size ≤ 7000) (hs : s.data.toList = x :: ((putB u.size).data.toList ++ u.data.toList)) : getT s 1 = (u, ((putB u.size).size : Int) + u.size + 1, 0) := by
  have hz := size_mid hs
  have hw := size_wf (u := u) (by omega)
  have hl := putB_le10 hw
  have e : (putB u.size).data.toList.length = (putB u.size).size := by rw [Array.length_toList]; rfl
  have e2 : u.data.toList.length = u.size := by rw [Array.length_toList]; rfl
  simp only [List.length_cons, List.length_append, e, e2] at hz
  have := getR_put (s := s) (pre := [x]) (post := u.data.toList) hw (by omega) (by rw [hs]; rfl)
  rw [show (([x] : List UInt8).length : Int) = 1 from rfl] at this
  unfold getT
  rw [this]
  simp only [List.length_singleton]
  rw [if_neg (by simp), if_neg (by omega), if_neg (by omega)]
  refine Prod.ext ?_ (Prod.ext (by simp only; omega) rfl)
  show s.extract _ _ = u
  apply ByteArray.ext
  apply Array.ext'
  rw [ByteArray.data_extract, Array.toList_extract, List.extract_eq_take_drop, hs]
  rw [show (((1 + (putB u.size).size : Nat) : Int)).toNat = (x :: (putB u.size).data.toList).length by rw [List.length_cons, e]; omega, ← List.cons_append, List.drop_left, List.length_cons, e]
  exact List.take_of_length_le (by rw [e2]; omega)
theorem getT_less (u s : ByteArray) (hu : u.size ≤ 7000) (hs : s.data.toList = ((putB u.size).data.toList ++ u.data.toList).take ((putB u.size).size + u.size - 1)) : getT s 0 = (ByteArray.empty, 0, 4) := by
  have hz := size_mid hs
  have hw := size_wf (u := u) (by omega)
  have hl := putB_le10 hw
  have hp := putB_pos u.size
  have e : (putB u.size).data.toList.length = (putB u.size).size := by rw [Array.length_toList]; rfl
  have e2 : u.data.toList.length = u.size := by rw [Array.length_toList]; rfl
  simp only [List.length_take, List.length_append, e, e2] at hz
  by_cases h0 : u.size = 0
  · have hr : getR s 0 = (0, 0, 4) := getR_less (n := u.size) s hw (by
      rw [hs, List.take_append_of_le_length (by rw [e]; omega), h0, Nat.add_zero])
    unfold getT
    rw [hr]
    rfl
  · have := getR_put (s := s) (pre := []) (post := u.data.toList.take (u.size - 1)) hw (by omega) (by
      rw [hs, List.nil_append, List.take_append, e, List.take_of_length_le (by rw [e]; omega)]
      congr 2
      omega)
    rw [show (([] : List UInt8).length : Int) = 0 from rfl] at this
    unfold getT
    rw [this]
    simp only [List.length_nil]
    rw [if_neg (by simp), if_neg (by omega), if_pos (by omega)]
end Go.Proofs.Ytklpaleghanhhaa
