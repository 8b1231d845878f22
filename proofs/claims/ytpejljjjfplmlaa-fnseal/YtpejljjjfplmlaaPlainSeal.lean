/- PLAIN: a seal comes back; with one byte turned it is refused; a CRC goes on from text to text; nothing of the program's own text. -/
import Derived.Test.YtpejljjjfplmlaaUnseal
namespace Go.Proofs.Ytpejljjjfplmlaa
open Go.RowKit

theorem crcStep_inj {x y : Nat} (hx : x < 4294967296) (hy : y < 4294967296) (h : crcStep x = crcStep y) : x = y := by
  have bit : ∀ z, z < 4294967296 → (z / 2 ^^^ 3988292384).testBit 31 = true := by
    intro z hz
    rw [Nat.testBit_xor, Nat.testBit_lt_two_pow (show z / 2 < 2 ^ 31 by omega)]
    decide
  have low : ∀ z, z < 4294967296 → (z / 2).testBit 31 = false := fun z hz => Nat.testBit_lt_two_pow (show z / 2 < 2 ^ 31 by omega)
  have canc : ∀ p q : Nat, p ^^^ 3988292384 = q ^^^ 3988292384 → p = q := by
    intro p q e
    have := congrArg (· ^^^ 3988292384) e
    simpa [Nat.xor_assoc] using this
  unfold crcStep at h
  by_cases h1 : x % 2 = 1 <;> by_cases h2 : y % 2 = 1
  · rw [if_pos h1, if_pos h2] at h
    have := canc _ _ h
    omega
  · rw [if_pos h1, if_neg h2] at h
    have e := bit x hx
    rw [h, low y hy] at e
    cases e
  · rw [if_neg h1, if_pos h2] at h
    have e := bit y hy
    rw [← h, low x hx] at e
    cases e
  · rw [if_neg h1, if_neg h2] at h
    omega
theorem crcSteps_inj (n : Nat) {x y : Nat} (hx : x < 4294967296) (hy : y < 4294967296) (h : crcSteps n x = crcSteps n y) : x = y := by
  induction n with
  | zero => exact h
  | succ n ih => exact ih (crcStep_inj (crcSteps_lt n hx) (crcSteps_lt n hy) h)
theorem xor_cancel_right {p q r : Nat} (e : p ^^^ r = q ^^^ r) : p = q := by
  have := congrArg (· ^^^ r) e
  simpa [Nat.xor_assoc] using this
theorem xor_cancel_left {p q r : Nat} (e : r ^^^ p = r ^^^ q) : p = q := by
  rw [Nat.xor_comm r p, Nat.xor_comm r q] at e
  exact xor_cancel_right e
theorem crcB_inj {r r' c : Nat} (hr : r < 4294967296) (hr' : r' < 4294967296) (hc : c < 256) (h : crcB r c = crcB r' c) : r = r' :=
  xor_cancel_right (crcSteps_inj 8 (xor_lt32 hr (by omega)) (xor_lt32 hr' (by omega)) h)
theorem crcB_byte {r c c' : Nat} (hr : r < 4294967296) (hc : c < 256) (hc' : c' < 256) (h : crcB r c = crcB r c') : c = c' :=
  xor_cancel_left (crcSteps_inj 8 (xor_lt32 hr (by omega)) (xor_lt32 hr (by omega)) h)
theorem crcL_inj (l : List UInt8) : ∀ {r r' : Nat}, r < 4294967296 → r' < 4294967296 → crcL r l = crcL r' l → r = r' := by
  induction l with
  | nil => intro r r' _ _ h; exact h
  | cons c l ih => intro r r' hr hr' h; exact crcB_inj hr hr' (u8_lt c) (ih (crcB_lt hr (u8_lt c)) (crcB_lt hr' (u8_lt c)) h)
theorem crcL_diff (l m : List UInt8) (c c' : UInt8) (r : Nat) (hr : r < 4294967296) (h : crcL r (l ++ c :: m) = crcL r (l ++ c' :: m)) : c = c' := by
  rw [crcL_append, crcL_append] at h
  have hl := crcL_lt l hr
  have e : crcL (crcB (crcL r l) c.toNat) m = crcL (crcB (crcL r l) c'.toNat) m := h
  have := crcL_inj m (crcB_lt hl (u8_lt c)) (crcB_lt hl (u8_lt c')) e
  exact UInt8.toNat_inj.1 (crcB_byte hl (u8_lt c) (u8_lt c') this)
theorem fourB_inj {c d : Nat} (hc : c < 4294967296) (hd : d < 4294967296) (h : fourB c = fourB d) : c = d := by
  have e : ∀ k, k < 4 → fourN c k = fourN d k := by
    intro k hk
    have e1 := fourB_at c k hk
    rw [h, fourB_at d k hk] at e1
    have e2 : ((fourN d k).toNat : Int) = (fourN c k).toNat := by
      have := Option.some.inj e1
      simpa using this
    exact UInt8.toNat_inj.1 (by omega)
  have e0 := congrArg UInt8.toNat (e 0 (by omega))
  have e1 := congrArg UInt8.toNat (e 1 (by omega))
  have e2 := congrArg UInt8.toNat (e 2 (by omega))
  have e3 := congrArg UInt8.toNat (e 3 (by omega))
  rw [fourN_toNat, fourN_toNat] at e0 e1 e2 e3
  rw [show 2 ^ (8 * 0) = 1 from rfl] at e0
  rw [show 2 ^ (8 * 1) = 256 from rfl] at e1
  rw [show 2 ^ (8 * 2) = 65536 from rfl] at e2
  rw [show 2 ^ (8 * 3) = 16777216 from rfl] at e3
  omega
/-- the CRC of a text, as a number from 0 on -/
def crcT (s : ByteArray) : Nat := crcL 4294967295 s.data.toList ^^^ 4294967295
theorem crcM_zero (s : ByteArray) (h : s.size ≤ 8000) : crcM 0 s = (crcT s : Int) := by
  unfold crcM crcT
  rw [if_neg (by omega)]
  rfl
theorem crcT_lt (s : ByteArray) : crcT s < 4294967296 := xor_lt32 (crcL_lt _ (by decide)) (by decide)
theorem crc_goes_on (t u : ByteArray) (h : t.size + u.size ≤ 8000) : crcM (crcM 0 t) u = crcM 0 (t ++ u) := by
  have e1 : crcM 0 t = (crcT t : Int) := crcM_zero t (by omega)
  have hl := crcT_lt t
  rw [e1, crcM_zero (t ++ u) (by rw [ByteArray.size_append]; omega)]
  unfold crcM
  rw [if_neg (by omega)]
  have e2 : crcT t ^^^ 4294967295 = crcL 4294967295 t.data.toList := by unfold crcT; rw [Nat.xor_assoc, Nat.xor_self, Nat.xor_zero]
  have e3 : (t ++ u).data.toList = t.data.toList ++ u.data.toList := by simp [ByteArray.data_append]
  unfold crcT
  rw [e3, crcL_append, show ((crcL 4294967295 t.data.toList ^^^ 4294967295 : Nat) : Int).toNat = crcT t from rfl, e2]
theorem sealB_small (t : ByteArray) (h : t.size ≤ 7996) : sealB t = t ++ fourB (crcT t) := by
  unfold sealB
  rw [if_neg (by omega), crcM_zero t (by omega)]
  rfl
theorem sealB_size (t : ByteArray) (h : t.size ≤ 7996) : (sealB t).size = t.size + 4 := by rw [sealB_small t h, ByteArray.size_append, fourB_size]
theorem unseal_seal (t : ByteArray) (h : t.size ≤ 7996) : unsealV (sealB t) = textOut t 0 0 := by
  have hz : (sealB t).size = t.size + 4 := by rw [sealB_small t h, ByteArray.size_append, fourB_size]
  have he : (sealB t).extract 0 ((sealB t).size - 4) = t := by
    rw [hz, sealB_small t h]
    apply ByteArray.ext
    apply Array.toList_inj.1
    rw [Lib.extract_data, ByteArray.data_append, Array.toList_append, List.drop_zero]
    rw [List.take_left' (by rw [Array.length_toList]; rfl)]
  unfold unsealV
  rw [if_neg (by omega), if_neg (by omega), he, if_pos rfl]
/-- with one byte turned: refused -/
theorem unseal_turned (t s' : ByteArray) (i : Nat) (x : UInt8) (h : t.size ≤ 7996) (hi : i < (sealB t).size) (hx : x ≠ (sealB t)[i]) (hs : s'.data.toList = (sealB t).data.toList.set i x) : unsealV s' = textOut ByteArray.empty 0 5 := by
  have hz : (sealB t).size = t.size + 4 := by rw [sealB_small t h, ByteArray.size_append, fourB_size]
  have hz' : s'.size = t.size + 4 := by
    have := congrArg List.length hs
    simp only [List.length_set, Array.length_toList] at this
    exact this.trans hz
  have hd : (sealB t).data.toList = t.data.toList ++ (fourB (crcT t)).data.toList := by rw [sealB_small t h]; simp [ByteArray.data_append]
  unfold unsealV
  rw [if_neg (by omega), if_neg (by omega), if_neg]
  intro e
  have hzT : (s'.extract 0 (s'.size - 4)).size = t.size := by rw [ByteArray.size_extract]; omega
  rw [sealB_small _ (by omega)] at e
  have eL := congrArg (fun b => b.data.toList) e
  simp only [ByteArray.data_append, Array.toList_append] at eL
  rw [hs, hd] at eL
  have hT : (s'.extract 0 (s'.size - 4)).data.toList = ((t.data.toList ++ (fourB (crcT t)).data.toList).set i x).take t.size := by
    rw [Lib.extract_data, List.drop_zero, hs, hd]
    congr 1
    omega
  have hlen : t.data.toList.length = t.size := by rw [Array.length_toList]; rfl
  have hxi : (t.data.toList ++ (fourB (crcT t)).data.toList)[i]? = some (sealB t)[i] := by
    rw [← hd, List.getElem?_eq_getElem (by simpa using hi)]; rfl
  generalize hE : s'.extract 0 (s'.size - 4) = T' at hT eL hzT
  by_cases hlt : i < t.size
  · rw [List.set_append_left _ _ (by rw [hlen]; exact hlt)] at hT eL
    rw [List.take_left' (by rw [List.length_set]; exact hlen)] at hT
    rw [hT] at eL
    have hF := List.append_cancel_left eL
    have hB : fourB (crcT T') = fourB (crcT t) := ByteArray.ext (Array.toList_inj.1 hF)
    have hC := fourB_inj (crcT_lt T') (crcT_lt t) hB
    unfold crcT at hC
    have hC2 := xor_cancel_right hC
    rw [hT] at hC2
    have hi' : i < t.data.toList.length := by rw [hlen]; exact hlt
    have e1 : t.data.toList = t.data.toList.take i ++ t.data.toList[i] :: t.data.toList.drop (i + 1) := by
      rw [← List.drop_eq_getElem_cons hi', List.take_append_drop]
    have e2 : t.data.toList.set i x = t.data.toList.take i ++ x :: t.data.toList.drop (i + 1) := List.set_eq_take_append_cons_drop.trans (by rw [if_pos hi'])
    rw [e2] at hC2
    rw [show crcL 4294967295 t.data.toList = crcL 4294967295 (t.data.toList.take i ++ t.data.toList[i] :: t.data.toList.drop (i + 1)) by rw [← e1]] at hC2
    have hxx := crcL_diff _ _ _ _ _ (by decide) hC2
    rw [List.getElem?_append_left hi', List.getElem?_eq_getElem hi'] at hxi
    exact hx (hxx.trans (Option.some.inj hxi))
  · have hle : t.data.toList.length ≤ i := by rw [hlen]; omega
    rw [List.set_append_right _ _ hle] at hT eL
    rw [List.take_left' hlen] at hT
    rw [hT] at eL
    have hF := List.append_cancel_left eL
    have hTt : T' = t := ByteArray.ext (Array.toList_inj.1 hT)
    rw [hTt] at hF
    rw [List.getElem?_append_right hle] at hxi
    have hj : i - t.data.toList.length < (fourB (crcT t)).data.toList.length := by
      rw [hlen]; show i - t.size < 4; omega
    have e3 : ((fourB (crcT t)).data.toList.set (i - t.data.toList.length) x)[i - t.data.toList.length]? = some x := by
      rw [List.getElem?_set_self hj]
    rw [← hF, hxi] at e3
    exact hx (Option.some.inj e3).symm
end Go.Proofs.Ytpejljjjfplmlaa
