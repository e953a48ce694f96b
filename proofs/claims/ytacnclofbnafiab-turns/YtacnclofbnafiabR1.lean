import Derived.Test.YtacnclofbnafiabWB
import Derived.Test.YtacnclofbnafiabDA
import Derived.Test.YtacnclofbnafiabFA
import Derived.Deep.RegionHeld3
import Derived.BigQuiet
namespace Go.Proofs.Ytacnclofbnafiab
open Go.RowKit Fl

/-- Behind names: 'x >> 63', 'x >> 52' of a uint64; the fraction. -/
def sr63 (x : Int) : Int := x / 9223372036854775808
def sr52 (x : Int) : Int := x / 4503599627370496
def frc (r : Nat) : Nat := r % 4503599627370496
def BB : Int := 4503599627370496
theorem shr63 (x : Int) (yk : IntKind) : Op.shift .shr .u64 x yk 63 = pure (.int .u64 (sr63 x)) := by
  rw [shift_shr .u64 yk x 63 (by decide) (by decide)]; rfl
theorem shr52 (x : Int) (yk : IntKind) : Op.shift .shr .u64 x yk 52 = pure (.int .u64 (sr52 x)) := by
  rw [shift_shr .u64 yk x 52 (by decide) (by decide)]; rfl
attribute [local go_sem ↓] shr63
attribute [local go_sem ↓] shr52
/-- The sign as a whole number. -/
def sgI (s : Bool) : Int := if s then -1 else 1
/-- The three digits. -/
def dg (m : Nat) : Nat → Int := fun k => if k = 0 then ((m % 16777216 : Nat) : Int) else if k = 1 then ((m / 16777216 % 16777216 : Nat) : Int) else ((m / 16777216 / 16777216 : Nat) : Int)
/-- AN EXACT: its struct's block be, its digits' block bd, its digits f. -/
structure OwnX (be bd : Nat) (f : Nat → Int) (w : World) : Prop where
  head : w.cell? ⟨be, 0, none⟩ = some (.slice (some ⟨bd, 0, none⟩) 190 190)
  cell : ∀ j, j < 190 → w.cell? ⟨bd, j, none⟩ = some (.int .i64 (f j))
  soft : ∀ j, j < 190 → w.frozen? ⟨bd, j, none⟩ = false
  lt1 : be < w.heap.size
  lt2 : bd < w.heap.size
  ne : be ≠ bd
theorem OwnX.below {be bd : Nat} {f : Nat → Int} {w w' : World} (h : OwnX be bd f w) (hb : Below w.heap.size w w') : OwnX be bd f w' := by
  have hs := hb.size
  refine ⟨?_, fun j hj => ?_, fun j hj => ?_, by have := h.lt1; omega, by have := h.lt2; omega, h.ne⟩
  · rw [hb.cell (p := ⟨be, 0, none⟩) h.lt1]; exact h.head
  · rw [hb.cell (p := ⟨bd, j, none⟩) h.lt2]; exact h.cell j hj
  · rw [hb.frozen (p := ⟨bd, j, none⟩) h.lt2]; exact h.soft j hj
theorem OwnX.drewN {be bd : Nat} {f : Nat → Int} {w : World} (h : OwnX be bd f w) (n : Nat) : OwnX be bd f (w.drewN n) :=
  ⟨h.head, h.cell, h.soft, h.lt1, h.lt2, h.ne⟩
theorem OwnX.set {be bd : Nat} {f : Nat → Int} {w : World} (h : OwnX be bd f w) (q : Nat) (hq : q < 190) (d v : Int) (hv : v = f q + d) : OwnX be bd (upd f q d) (w.setCell ⟨bd, q, none⟩ (.int .i64 v)) := by
  refine ⟨?_, fun j hj => ?_, fun j hj => ?_, by simpa using h.lt1, by simpa using h.lt2, h.ne⟩
  · rw [World.cell?_setCell_other (h := by intro e; injection e with e; exact h.ne e.symm)]; exact h.head
  · by_cases e : j = q
    · subst e
      rw [World.cell?_setCell_same (h := h.cell j hj)]
      unfold upd; rw [if_pos rfl, hv]
    · rw [World.cell?_setCell_other (h := by intro e'; injection e' with e1 e2; exact e e2.symm), h.cell j hj]
      unfold upd; rw [if_neg e]
  · rw [World.frozen?_setCell]; exact h.soft j hj

@[go_sem] theorem buildX (p : Option Addr) (l c : Nat) (w : World) : (Instr.build 72 #[(0, .slice p l c)]).run Try.prog w = .ok (.agg #[.slice p l c]) w := run_build w 72 _ _ (by kernel_rfl)
end Go.Proofs.Ytacnclofbnafiab
