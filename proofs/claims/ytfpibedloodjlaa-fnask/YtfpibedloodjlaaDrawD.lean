/- THE DRAWS' STATE in one word: a source over bytes, and nothing of what was there turned but the source. -/
import Derived.Test.YtfpibedloodjlaaProg
import Derived.Test.YtfpibedloodjlaaDraw2
import Derived.WalkKit
import Derived.Below
namespace Go.Proofs.Ytfpibedloodjlaa
open Go.RowKit
set_option linter.unusedVariables false

structure Dr (b B : Nat) (a : Option Addr) (len cap : Nat) (w0 w : World) : Prop where
  src : Src b a len cap w
  rb : Rb B w a len
  grb : Grb b w0 w
  lt : b < w.heap.size
  le : B ≤ b
theorem Dr.only {b B : Nat} {a : Option Addr} {len cap : Nat} {w0 w w' : World} (h : Dr b B a len cap w0 w) (hs : Src b a len cap w') (ho : Only b w w') : Dr b B a len cap w0 w' :=
  ⟨hs, h.rb.grb ho.grb h.le (by have := h.le; have := h.lt; omega), h.grb.trans ho.grb, by rw [ho.size]; exact h.lt, h.le⟩
theorem Dr.grown {b B : Nat} {a : Option Addr} {len cap : Nat} {w0 w w' : World} (h : Dr b B a len cap w0 w) (hs : Src b a len cap w') (hg : Grb b w w') : Dr b B a len cap w0 w' :=
  ⟨hs, h.rb.grb hg h.le (by have := h.le; have := h.lt; omega), h.grb.trans hg, Nat.lt_of_lt_of_le h.lt hg.size, h.le⟩
theorem Dr.below {b B : Nat} {a : Option Addr} {len cap : Nat} {w0 w w' : World} (h : Dr b B a len cap w0 w) (hb : Below w.heap.size w w') : Dr b B a len cap w0 w' :=
  h.grown (h.src.of_block (hb.block b h.lt)) (grb_of_below hb)
theorem Dr.alloc {b B : Nat} {a : Option Addr} {len cap : Nat} {w0 w : World} (h : Dr b B a len cap w0 w) (o : Obj) : Dr b B a len cap w0 (w.alloc o) := h.below ((Below.refl _ _).alloc (Nat.le_refl _) _)
theorem Dr.size {b B : Nat} {a : Option Addr} {len cap : Nat} {w0 w : World} (h : Dr b B a len cap w0 w) : w0.heap.size ≤ w.heap.size := h.grb.size
theorem n_D {b B : Nat} {a : Option Addr} {len cap : Nat} {w0 w : World} (h : Dr b B a len cap w0 w) (most : Int) (h2 : most ≤ 1099511627776) :
    Calls Try.prog 39 #[.pointer (some ⟨b, 0, none⟩), .int .i64 most] w fun e w' => ∃ r : Nat, e = .returned (.int .i64 r) ∧ ((r : Int) < most ∨ r = 0) ∧ Dr b B a len cap w0 w' ∧ Only b w w' :=
  (n_any b B a len cap most w h2 h.src h.rb h.le).mono fun e w' ⟨r, h1, h3, h4, h5⟩ => ⟨r, h1, h3, h.only h4 h5, h5⟩
theorem one_D {b B : Nat} {a : Option Addr} {len cap : Nat} {w0 w : World} (h : Dr b B a len cap w0 w) (most : Int) (h2 : most ≤ 1099511627776) :
    Calls Try.prog 42 #[.pointer (some ⟨b, 0, none⟩), .int .i64 most] w fun e w' => ∃ r : Bool, e = .returned (.bool r) ∧ Dr b B a len cap w0 w' ∧ Only b w w' :=
  (one_any b B a len cap most w h2 h.src h.rb h.le).mono fun e w' ⟨r, h1, h4, h5⟩ => ⟨r, h1, h.only h4 h5, h5⟩
theorem bytes_D {b B : Nat} {a : Option Addr} {len cap : Nat} {w0 w : World} (h : Dr b B a len cap w0 w) (n : Nat) (hn : n ≤ 1000000) :
    Calls Try.prog 45 #[.pointer (some ⟨b, 0, none⟩), .int .i64 n] w fun e w' => ∃ s : ByteArray, e = .returned (.string s) ∧ s.size = n ∧ Dr b B a len cap w0 w' :=
  (bytes_any b B a len cap n w hn h.src h.rb h.le h.lt).mono fun e w' ⟨s, h1, h3, h4, h5⟩ => ⟨s, h1, h3, h.grown h4 h5⟩
/-- a source that was just made -/
theorem source_D (B : Nat) (a : Option Addr) (len cap : Nat) (w : World) (hr : Rb B w a len) (hB : B ≤ w.heap.size) :
    Calls Try.prog 32 #[.slice a len cap] w fun e w' => e = .returned (.pointer (some ⟨w.heap.size, 0, none⟩)) ∧ Dr w.heap.size B a len cap w' w' ∧ Below w.heap.size w w' :=
  (source_any B a len cap w hr hB).mono fun e w' ⟨h1, h2, h3, h4⟩ => ⟨h1, ⟨h2, hr.grb (grb_of_below (b := w.heap.size) h3) hB hB, Grb.refl _ _, h4, hB⟩, h3⟩
theorem Dr.end {B : Nat} {a : Option Addr} {len cap : Nat} {W w0 w : World} (h : Dr W.heap.size B a len cap w0 w) (hb : Below W.heap.size W w0) : Below W.heap.size W w := hb.trans (h.grb.below (Nat.le_refl _) hb.size)
end Go.Proofs.Ytfpibedloodjlaa
