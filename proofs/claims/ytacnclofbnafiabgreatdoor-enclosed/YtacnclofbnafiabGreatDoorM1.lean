import Derived.Test.YtacnclofbnafiabGreatDoorKA
namespace Go.Proofs.YtacnclofbnafiabGreatDoor
open Go.RowKit Fl

theorem pl_neg {k : Int} (h : Pl k) : Pl (-k) := by unfold Pl at *; omega
theorem pl_zero : Pl 0 := by unfold Pl; omega
theorem pl_min {a b : Int} (ha : Pl a) (hb : Pl b) : Pl (min a b) := by unfold Pl at *; omega
theorem pl_max {a b : Int} (ha : Pl a) (hb : Pl b) : Pl (max a b) := by unfold Pl at *; omega
theorem pl_inf : Pl INF := by unfold Pl; omega
theorem pl_ninf : Pl (-INF) := by unfold Pl; omega
/-- DOWN is not above UP. -/
theorem Rk.le {E : Int → Int} {D P : Int} (hE : AntiI E) (h : Rk E D P) : D ≤ P := by
  rcases Int.lt_or_le P D with g | g
  · exfalso
    have h1 := h.dn.hi
    have h2 := h.up.lo
    have h3 := (h.dn.ok D (by omega) h1).2 (Int.le_refl _)
    have h4 := (h.up.ok P h2 (by omega)).2 (Int.le_refl _)
    have := hE _ _ (Vk_lt.2 g) h3
    omega
  · exact g

-- sums
theorem Ops.add_pl (F : Ops) {k l : Int} (hk : Pl k) (hl : Pl l) : Pl (F.aD k l) ∧ Pl (F.aU k l) := by
  have := (F.add hk hl).bd
  unfold Pl; omega
theorem Ops.add_mono (F : Ops) {k l k' l' : Int} (hk : Pl k) (hl : Pl l) (hk' : Pl k') (hl' : Pl l') (h1 : k ≤ k') (h2 : l ≤ l') : F.aD k l ≤ F.aD k' l' ∧ F.aU k l ≤ F.aU k' l' :=
  (F.add hk hl).mono (F.add hk' hl') hk.1 hk'.2 hl.1 hl'.2 h1 h2

-- products
theorem Ops.mul_pl (F : Ops) {k l : Int} (hk : Pl k) (hl : Pl l) : Pl (F.mD k l) ∧ Pl (F.mU k l) := by
  have := (F.mul hk hl).bd
  unfold Pl; omega
theorem Ops.mul_comm (F : Ops) {k l : Int} (hk : Pl k) (hl : Pl l) : F.mD k l = F.mD l k ∧ F.mU k l = F.mU l k :=
  (F.mul hk hl).unique (F.mul hl hk).comm hk.1 hk.2 hl.1 hl.2
theorem Ops.mul_neg (F : Ops) {k l : Int} (hk : Pl k) (hl : Pl l) : F.mD (-k) l = -F.mU k l ∧ F.mU (-k) l = -F.mD k l :=
  (F.mul (pl_neg hk) hl).unique (F.mul hk hl).neg (pl_neg hk).1 (pl_neg hk).2 hl.1 hl.2
theorem Ops.mul_zero (F : Ops) {l : Int} (hl : Pl l) : F.mD 0 l = 0 ∧ F.mU 0 l = 0 := (F.mul pl_zero hl).zero (.inl rfl)
theorem Ops.mul_mono (F : Ops) {k k' l : Int} (hk : Pl k) (hk' : Pl k') (hl : Pl l) (h : k ≤ k') (h0 : 0 ≤ l) : F.mD k l ≤ F.mD k' l ∧ F.mU k l ≤ F.mU k' l :=
  (F.mul hk hl).mono (F.mul hk' hl) hk.1 hk'.2 h0 hl.2 h
theorem Ops.mul_anti (F : Ops) {k k' l : Int} (hk : Pl k) (hk' : Pl k') (hl : Pl l) (h : k ≤ k') (h0 : l ≤ 0) : F.mD k' l ≤ F.mD k l ∧ F.mU k' l ≤ F.mU k l := by
  have h1 := F.mul_mono hk hk' (pl_neg hl) h (by omega)
  have e1 := F.mul_comm hk (pl_neg hl)
  have e2 := F.mul_neg hl hk
  have e3 := F.mul_comm hl hk
  have e4 := F.mul_comm hk' (pl_neg hl)
  have e5 := F.mul_neg hl hk'
  have e6 := F.mul_comm hl hk'
  omega
theorem Ops.mul_pos (F : Ops) {k l : Int} (hk : Pl k) (hl : Pl l) (h1 : 0 ≤ k) (h2 : 0 ≤ l) : 0 ≤ F.mD k l ∧ 0 ≤ F.mU k l := by
  have h := F.mul_mono pl_zero hk hl h1 h2
  have := F.mul_zero hl
  omega
theorem Ops.mul_le (F : Ops) {k l : Int} (hk : Pl k) (hl : Pl l) : F.mD k l ≤ F.mU k l := by
  have h := F.mul hk hl
  unfold Pl at hk hl
  by_cases f : -(INF : Int) < k ∧ k < INF ∧ -(INF : Int) < l ∧ l < INF
  · exact (h.num f.1 f.2.1 f.2.2.1 f.2.2.2).le (Et_anti _)
  · have o1 := h.zero
    have o2 := h.infp
    have o3 := h.infn
    generalize F.mD k l = D at *
    generalize F.mU k l = P at *
    clear h
    omega
/-- Between two corners. -/
theorem Ops.mul_between (F : Ops) {a k b l : Int} (ha : Pl a) (hk : Pl k) (hb : Pl b) (hl : Pl l) (h1 : a ≤ k) (h2 : k ≤ b) :
    min (F.mD a l) (F.mD b l) ≤ F.mD k l ∧ F.mU k l ≤ max (F.mU a l) (F.mU b l) := by
  rcases Int.lt_or_le l 0 with g | g
  · have e1 := F.mul_anti hk hb hl h2 (by omega)
    have e2 := F.mul_anti ha hk hl h1 (by omega)
    omega
  · have e1 := F.mul_mono hk hb hl h2 g
    have e2 := F.mul_mono ha hk hl h1 g
    omega
/-- The product of two intervals, by places. -/
def Ops.pLo (F : Ops) (a b c d : Int) : Int := min (min (F.mD a c) (F.mD a d)) (min (F.mD b c) (F.mD b d))
def Ops.pHi (F : Ops) (a b c d : Int) : Int := max (max (F.mU a c) (F.mU a d)) (max (F.mU b c) (F.mU b d))
theorem Ops.p_pl (F : Ops) {a b c d : Int} (ha : Pl a) (hb : Pl b) (hc : Pl c) (hd : Pl d) : Pl (F.pLo a b c d) ∧ Pl (F.pHi a b c d) :=
  ⟨pl_min (pl_min (F.mul_pl ha hc).1 (F.mul_pl ha hd).1) (pl_min (F.mul_pl hb hc).1 (F.mul_pl hb hd).1), pl_max (pl_max (F.mul_pl ha hc).2 (F.mul_pl ha hd).2) (pl_max (F.mul_pl hb hc).2 (F.mul_pl hb hd).2)⟩
theorem Ops.p_has (F : Ops) {a b c d k l : Int} (ha : Pl a) (hb : Pl b) (hc : Pl c) (hd : Pl d) (hk : Pl k) (hl : Pl l) (h1 : a ≤ k) (h2 : k ≤ b) (h3 : c ≤ l) (h4 : l ≤ d) :
    F.pLo a b c d ≤ F.mD k l ∧ F.mU k l ≤ F.pHi a b c d := by
  have e1 := F.mul_between ha hk hb hl h1 h2
  have e2 := F.mul_between hc hl hd ha h3 h4
  have e3 := F.mul_between hc hl hd hb h3 h4
  have q1 := F.mul_comm ha hl
  have q2 := F.mul_comm hb hl
  have q3 := F.mul_comm ha hc
  have q4 := F.mul_comm ha hd
  have q5 := F.mul_comm hb hc
  have q6 := F.mul_comm hb hd
  unfold Ops.pLo Ops.pHi
  omega

/-- What a / b comes to at the least, b from c to d (0 ≤ c, 0 < d). -/
def Ops.qLo (F : Ops) (a c d : Int) : Int := if 0 ≤ a then F.dD a d else F.dD a c
def Ops.qHi (F : Ops) (a c d : Int) : Int := if a ≤ 0 then F.dU a d else F.dU a c
-- roots
theorem Ops.sqrt_pl (F : Ops) {k : Int} (hk : Pl k) (h0 : 0 ≤ k) : Pl (F.sD k) ∧ Pl (F.sU k) := by
  have := (F.sqrt hk h0).bd
  unfold Pl; omega
end Go.Proofs.YtacnclofbnafiabGreatDoor
