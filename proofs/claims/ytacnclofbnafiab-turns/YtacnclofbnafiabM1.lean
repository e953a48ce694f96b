import Derived.Test.YtacnclofbnafiabK3
namespace Go.Proofs.Ytacnclofbnafiab
open Go.RowKit Fl

theorem pl_neg {k : Int} (h : Pl k) : Pl (-k) := by unfold Pl at *; omega
theorem pl_zero : Pl 0 := by unfold Pl; omega
theorem pl_max {a b : Int} (ha : Pl a) (hb : Pl b) : Pl (max a b) := by unfold Pl at *; omega
theorem pl_inf : Pl INF := by unfold Pl; omega
theorem pl_ninf : Pl (-INF) := by unfold Pl; omega
/-- DOWN is not above UP. -/
theorem Rk.le {E : Int → Int} {D P : Int} (hE : AntiI E) (h : Rk E D P) : D ≤ P := by
  rcases Int.lt_or_le P D with g | g
  · exfalso
    have h1 := h.dn.hi
    have h2 := h.up.lo
    have h3 := (h.dn.ok D (by omega) h1).2 (Int.le_refl _)
    have h4 := (h.up.ok P h2 (by omega)).2 (Int.le_refl _)
    have := hE _ _ (Vk_lt.2 g) h3
    omega
  · exact g

-- sums
theorem Ops.add_pl (F : Ops) {k l : Int} (hk : Pl k) (hl : Pl l) : Pl (F.aD k l) ∧ Pl (F.aU k l) := by
  have := (F.add hk hl).bd
  unfold Pl; omega
theorem Ops.add_mono (F : Ops) {k l k' l' : Int} (hk : Pl k) (hl : Pl l) (hk' : Pl k') (hl' : Pl l') (h1 : k ≤ k') (h2 : l ≤ l') : F.aD k l ≤ F.aD k' l' ∧ F.aU k l ≤ F.aU k' l' :=
  (F.add hk hl).mono (F.add hk' hl') hk.1 hk'.2 hl.1 hl'.2 h1 h2

-- products
theorem Ops.mul_pl (F : Ops) {k l : Int} (hk : Pl k) (hl : Pl l) : Pl (F.mD k l) ∧ Pl (F.mU k l) := by
  have := (F.mul hk hl).bd
  unfold Pl; omega
theorem Ops.mul_comm (F : Ops) {k l : Int} (hk : Pl k) (hl : Pl l) : F.mD k l = F.mD l k ∧ F.mU k l = F.mU l k :=
  (F.mul hk hl).unique (F.mul hl hk).comm hk.1 hk.2 hl.1 hl.2
theorem Ops.mul_neg (F : Ops) {k l : Int} (hk : Pl k) (hl : Pl l) : F.mD (-k) l = -F.mU k l ∧ F.mU (-k) l = -F.mD k l :=
  (F.mul (pl_neg hk) hl).unique (F.mul hk hl).neg (pl_neg hk).1 (pl_neg hk).2 hl.1 hl.2
theorem Ops.mul_zero (F : Ops) {l : Int} (hl : Pl l) : F.mD 0 l = 0 ∧ F.mU 0 l = 0 := (F.mul pl_zero hl).zero (.inl rfl)
theorem Ops.mul_mono (F : Ops) {k k' l : Int} (hk : Pl k) (hk' : Pl k') (hl : Pl l) (h : k ≤ k') (h0 : 0 ≤ l) : F.mD k l ≤ F.mD k' l ∧ F.mU k l ≤ F.mU k' l :=
  (F.mul hk hl).mono (F.mul hk' hl) hk.1 hk'.2 h0 hl.2 h
theorem Ops.mul_pos (F : Ops) {k l : Int} (hk : Pl k) (hl : Pl l) (h1 : 0 ≤ k) (h2 : 0 ≤ l) : 0 ≤ F.mD k l ∧ 0 ≤ F.mU k l := by
  have h := F.mul_mono pl_zero hk hl h1 h2
  have := F.mul_zero hl
  omega
/-- The product of two intervals, by places. -/
def Ops.pLo (F : Ops) (a b c d : Int) : Int := min (min (F.mD a c) (F.mD a d)) (min (F.mD b c) (F.mD b d))
def Ops.pHi (F : Ops) (a b c d : Int) : Int := max (max (F.mU a c) (F.mU a d)) (max (F.mU b c) (F.mU b d))
/-- What a / b comes to at the least, b from c to d (0 ≤ c, 0 < d). -/
def Ops.qLo (F : Ops) (a c d : Int) : Int := if 0 ≤ a then F.dD a d else F.dD a c
def Ops.qHi (F : Ops) (a c d : Int) : Int := if a ≤ 0 then F.dU a d else F.dU a c
-- roots
theorem Ops.sqrt_pl (F : Ops) {k : Int} (hk : Pl k) (h0 : 0 ≤ k) : Pl (F.sD k) ∧ Pl (F.sU k) := by
  have := (F.sqrt hk h0).bd
  unfold Pl; omega
end Go.Proofs.Ytacnclofbnafiab
