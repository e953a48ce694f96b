import Derived.Test.YtacnclofbnafiaaM1
namespace Go.Proofs.Ytacnclofbnafiaa
open Go.RowKit Fl

/-- x is the whole number n. -/
structure Num (x : Nat) (n k : Int) : Prop where
  key : Key x k
  lo : -(INF : Int) < k
  hi : k < INF
  val : Vk k = n * (U : Int)
theorem rep_U (j : Nat) (h : j ≤ 9007199254740992) : ∃ k, k < INF ∧ M k = j * U := by
  obtain ⟨e, he⟩ : ∃ e, e = EE := ⟨_, rfl⟩
  obtain ⟨k, hk⟩ := rep e j h
  have hU : U = 2 ^ e := by rw [he]; rfl
  refine ⟨k, lt_of_M ?_, by rw [hk, hU]⟩
  obtain ⟨f, hf⟩ : ∃ f : Nat, f = 2046 := ⟨_, rfl⟩
  rw [hk, M_INF f hf]
  have e1 : e = 1074 := he.trans EE_eq
  have h1 : (2 : Nat) ^ f = 2 ^ e * 2 ^ (f - e) := by rw [← Nat.pow_add]; exact congrArg _ (by omega)
  have h2 : (2 : Nat) ^ 53 ≤ 2 ^ (f - e) := Nat.pow_le_pow_right (by omega) (by omega)
  rw [p53] at h2
  have h3 : j * 2 ^ e ≤ 9007199254740992 * 2 ^ e := Nat.mul_le_mul_right _ h
  have h4 : 9007199254740992 * 2 ^ e ≤ 2 ^ (f - e) * 2 ^ e := Nat.mul_le_mul_right _ h2
  have h5 : 0 < 2 ^ e := Nat.two_pow_pos _
  have h6 : 2 ^ e * 2 ^ (f - e) < 4503599627370496 * (2 ^ e * 2 ^ (f - e)) := by
    have : 0 < 2 ^ e * 2 ^ (f - e) := Nat.mul_pos h5 (Nat.two_pow_pos _)
    omega
  rw [h1]
  rw [Nat.mul_comm (2 ^ (f - e))] at h4
  omega
/-- The word of a sign and the rung of a whole number. -/
theorem num_word (sg : Bool) (z : Nat) (n : Int) (hz : z < INF) (h : M z = n.natAbs * U) (hs : SgnOk sg n) : ∃ k, Num (W sg z) n k := by
  refine ⟨ixI sg z, ⟨⟨sg, z, rfl, Nat.le_of_lt hz, rfl⟩, by unfold ixI; cases sg <;> simp <;> omega, by unfold ixI; cases sg <;> simp <;> omega, ?_⟩⟩
  rw [Vk_ix]
  unfold V
  rw [h]
  rcases Int.lt_trichotomy n 0 with g | g | g
  · rw [hs.1 g]
    simp only [if_true]
    rw [Int.natCast_mul, ← Int.neg_mul]
    congr 1; omega
  · subst g; cases sg <;> simp
  · rw [hs.2 g]
    simp only [Bool.false_eq_true, if_false]
    rw [Int.natCast_mul]
    congr 1; omega
theorem SgnOk_mul {sg : Bool} {E n : Int} (h : SgnOk sg E) (e : E = n * (U : Int)) : SgnOk sg n := by
  have hU := U_posI
  refine ⟨fun g => h.1 ?_, fun g => h.2 ?_⟩
  · have := Int.mul_pos (show 0 < -n by omega) hU
    rw [Int.neg_mul] at this; omega
  · have := Int.mul_pos g hU; omega
theorem Num.parts {x : Nat} {n k : Int} (h : Num x n k) : ∃ s r, x = W s r ∧ r < INF ∧ V s r = n * (U : Int) := by
  obtain ⟨⟨s, r, rfl, hr, rfl⟩, h1, h2, h3⟩ := h
  refine ⟨s, r, rfl, ?_, by rw [← Vk_ix]; exact h3⟩
  unfold ixI at h1 h2
  cases s <;> simp at h1 h2 <;> omega
theorem natAbs_U (n : Int) : (n * (U : Int)).natAbs = n.natAbs * U := by rw [Int.natAbs_mul]; simp
theorem num_add {x y : Nat} {a b k l : Int} (hx : Num x a k) (hy : Num y b l) (h : (a + b).natAbs ≤ 9007199254740992) : ∃ z m, Ieee.double.add x y = some z ∧ Num z (a + b) m := by
  obtain ⟨s, r, rfl, hr, e1⟩ := hx.parts
  obtain ⟨t, q, rfl, hq, e2⟩ := hy.parts
  obtain ⟨sg, z, g1, g2, g3, _⟩ := add_fin s t r q hr hq
  obtain ⟨j, hj, hM⟩ := rep_U _ h
  have e : V s r + V t q = (a + b) * (U : Int) := by rw [e1, e2, Int.add_mul]
  rw [e] at g2 g3
  have hz : z = j := g2.exact (Nat.le_of_lt hj) (by unfold Rt; rw [natAbs_U, hM]; simp)
  subst hz
  obtain ⟨m, hm⟩ := num_word sg z (a + b) hj hM (SgnOk_mul g3 rfl)
  exact ⟨_, m, g1, hm⟩
theorem num_sub {x y : Nat} {a b k l : Int} (hx : Num x a k) (hy : Num y b l) (h : (a - b).natAbs ≤ 9007199254740992) : ∃ z m, Ieee.double.sub x y = some z ∧ Num z (a - b) m := by
  obtain ⟨s, r, rfl, hr, e1⟩ := hx.parts
  obtain ⟨t, q, rfl, hq, e2⟩ := hy.parts
  obtain ⟨sg, z, g1, g2, g3, _⟩ := sub_fin s t r q hr hq
  obtain ⟨j, hj, hM⟩ := rep_U _ h
  have e : V s r - V t q = (a - b) * (U : Int) := by rw [e1, e2, Int.sub_mul]
  rw [e] at g2 g3
  have hz : z = j := g2.exact (Nat.le_of_lt hj) (by unfold Rt; rw [natAbs_U, hM]; simp)
  subst hz
  obtain ⟨m, hm⟩ := num_word sg z (a - b) hj hM (SgnOk_mul g3 rfl)
  exact ⟨_, m, g1, hm⟩
theorem V_sgn (s : Bool) (r : Nat) : SgnOk s (V s r) := by
  unfold SgnOk V
  cases s
  · exact ⟨fun h => by simp at h; omega, fun _ => rfl⟩
  · exact ⟨fun _ => rfl, fun h => by simp at h; omega⟩
theorem num_mul {x y : Nat} {a b k l : Int} (hx : Num x a k) (hy : Num y b l) (h : (a * b).natAbs ≤ 9007199254740992) : ∃ z m, Ieee.double.mul x y = some z ∧ Num z (a * b) m := by
  obtain ⟨s, r, rfl, hr, e1⟩ := hx.parts
  obtain ⟨t, q, rfl, hq, e2⟩ := hy.parts
  obtain ⟨z, g1, g2⟩ := mul_fin s t r q hr hq
  obtain ⟨j, hj, hM⟩ := rep_U _ h
  have m1 : M r = a.natAbs * U := by rw [← natAbs_U, ← e1, V_natAbs]
  have m2 : M q = b.natAbs * U := by rw [← natAbs_U, ← e2, V_natAbs]
  have hz : z = j := g2.exact (Nat.le_of_lt hj) (by
    unfold Rt
    rw [m1, m2, hM, Int.natAbs_mul]
    have : a.natAbs * U * (b.natAbs * U) = a.natAbs * b.natAbs * U * U := by
      rw [Nat.mul_mul_mul_comm, ← Nat.mul_assoc]
    rw [this]; simp)
  subst hz
  have hs : SgnOk (s ^^ t) (a * b) := by
    have s1 := SgnOk_mul (V_sgn s r) e1
    have s2 := SgnOk_mul (V_sgn t q) e2
    refine ⟨fun g => ?_, fun g => ?_⟩
    · rcases Int.lt_trichotomy a 0 with c | c | c
      · rcases Int.lt_trichotomy b 0 with d | d | d
        · have := Int.mul_pos (show 0 < -a by omega) (show 0 < -b by omega)
          rw [Int.neg_mul_neg] at this; omega
        · subst d; simp at g
        · rw [s1.1 c, s2.2 d]; rfl
      · subst c; simp at g
      · rcases Int.lt_trichotomy b 0 with d | d | d
        · rw [s1.2 c, s2.1 d]; rfl
        · subst d; simp at g
        · have := Int.mul_pos c d; omega
    · rcases Int.lt_trichotomy a 0 with c | c | c
      · rcases Int.lt_trichotomy b 0 with d | d | d
        · rw [s1.1 c, s2.1 d]; rfl
        · subst d; simp at g
        · have := Int.mul_pos (show 0 < -a by omega) d
          rw [Int.neg_mul] at this; omega
      · subst c; simp at g
      · rcases Int.lt_trichotomy b 0 with d | d | d
        · have := Int.mul_pos c (show 0 < -b by omega)
          rw [Int.mul_neg] at this; omega
        · subst d; simp at g
        · rw [s1.2 c, s2.2 d]; rfl
  obtain ⟨m, hm⟩ := num_word (s ^^ t) z (a * b) hj hM hs
  exact ⟨_, m, g1, hm⟩
theorem num_int (n : Int) (h : n.natAbs ≤ 9007199254740992) : ∃ m, Num (FloatKind.f64.nearest n) n m := by
  obtain ⟨z, g1, g2⟩ := nearest_faith (decide (n < 0)) n.natAbs 0
  obtain ⟨j, hj, hM⟩ := rep_U _ h
  have e : FloatKind.f64.nearest n = W (decide (n < 0)) z := by
    have : FloatKind.f64.nearest n = Ieee.double.nearest (decide (n < 0)) n.natAbs 0 := rfl
    rw [this, g1, word_W]
  have hE : ((0 : Int) + 1074).toNat = EE := by rw [EE_eq]; rfl
  have hU : (2 : Nat) ^ ((0 : Int) + 1074).toNat = U := by rw [hE]; rfl
  have h1 : (2 : Nat) ^ (-((0 : Int) + 1074)).toNat = 1 := by
    have : (-((0 : Int) + 1074)).toNat = 0 := by omega
    rw [this]
  rw [hU, h1] at g2
  have hz : z = j := g2.exact (Nat.le_of_lt hj) (by unfold Rt; rw [hM]; simp)
  subst hz
  rw [e]
  refine num_word _ z n hj hM ⟨fun g => decide_eq_true g, fun g => decide_eq_false (by omega)⟩
theorem num_unique {x y : Nat} {n k l : Int} (hx : Num x n k) (hy : Num y n l) : k = l := by
  have h := hx.val.trans hy.val.symm
  rcases Int.lt_trichotomy k l with g | g | g
  · have := Vk_lt.2 g; omega
  · exact g
  · have := Vk_lt.2 g; omega
/-- What is exact is its own DOWN and UP. -/
theorem Rk.exact {E : Int → Int} {D P m : Int} (hE : AntiI E) (h : Rk E D P) (h1 : -(INF : Int) < m) (h2 : m < INF) (e : E (Vk m) = 0) : D = m ∧ P = m := by
  have a := (h.dn.ok m h1 h2).1 (by omega)
  have b := (h.up.ok m h1 h2).1 (by omega)
  have c := h.le hE
  omega
theorem Ops.add_exact (F : Ops) {x y z : Nat} {a b k l m : Int} (hx : Num x a k) (hy : Num y b l) (hz : Num z (a + b) m) : F.aD k l = m ∧ F.aU k l = m :=
  ((F.add hx.key.pl hy.key.pl).num hx.lo hx.hi hy.lo hy.hi).exact (Ep_anti _) hz.lo hz.hi (by unfold Ep; rw [hx.val, hy.val, hz.val, Int.add_mul]; omega)
theorem Ops.mul_exact (F : Ops) {x y z : Nat} {a b k l m : Int} (hx : Num x a k) (hy : Num y b l) (hz : Num z (a * b) m) : F.mD k l = m ∧ F.mU k l = m :=
  ((F.mul hx.key.pl hy.key.pl).num hx.lo hx.hi hy.lo hy.hi).exact (Et_anti _) hz.lo hz.hi (by
    unfold Et
    rw [hx.val, hy.val, hz.val]
    have : a * (U : Int) * (b * (U : Int)) = a * b * (U : Int) * (U : Int) := by
      rw [Int.mul_assoc a, Int.mul_left_comm (U : Int) b, ← Int.mul_assoc, ← Int.mul_assoc]
    omega)
theorem Num.neg {x : Nat} {a k : Int} (h : Num x a k) : Num (B (-k)) (-a) (-k) := ⟨Key.at (pl_neg h.key.pl), by have := h.hi; omega, by have := h.lo; omega, by rw [Vk_neg, h.val, Int.neg_mul]⟩
theorem Ops.sqrt_exact (F : Ops) {x z : Nat} {a k m : Int} (hx : Num x (a * a) k) (hz : Num z a m) (h0 : 0 ≤ a) : F.sD k = m ∧ F.sU k = m := by
  have hk : 0 ≤ k := by
    rcases Int.lt_or_le k 0 with g | g
    · have := Vk_lt.2 g
      rw [Vk_zero, hx.val] at this
      have := Int.mul_nonneg (Int.mul_nonneg h0 h0) (Int.le_of_lt U_posI)
      omega
    · exact g
  refine ((F.sqrt hx.key.pl hk).num hk hx.hi).exact (Er_anti _) hz.lo hz.hi ?_
  unfold Er
  have hv : 0 ≤ Vk m := by rw [hz.val]; exact Int.mul_nonneg h0 (Int.le_of_lt U_posI)
  rw [if_neg (by omega), hx.val, hz.val]
  have : a * (U : Int) * (a * (U : Int)) = a * a * (U : Int) * (U : Int) := by
    rw [Int.mul_assoc a, Int.mul_left_comm (U : Int) a, ← Int.mul_assoc, ← Int.mul_assoc]
  omega
end Go.Proofs.Ytacnclofbnafiaa
