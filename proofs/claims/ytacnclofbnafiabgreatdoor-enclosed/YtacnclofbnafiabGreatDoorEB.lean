import Derived.Test.YtacnclofbnafiabGreatDoorM1
import Derived.Test.YtacnclofbnafiabGreatDoorKB
import Derived.Test.YtacnclofbnafiabGreatDoorSPP
namespace Go.Proofs.YtacnclofbnafiabGreatDoor
open Go.RowKit Fl

/-- x is the whole number n. -/
structure Num (x : Nat) (n k : Int) : Prop where
  key : Key x k
  lo : -(INF : Int) < k
  hi : k < INF
  val : Vk k = n * (U : Int)
theorem rep_U (j : Nat) (h : j ≤ 9007199254740992) : ∃ k, k < INF ∧ M k = j * U := by
  obtain ⟨e, he⟩ : ∃ e, e = EE := ⟨_, rfl⟩
  obtain ⟨k, hk⟩ := rep e j h
  have hU : U = 2 ^ e := by rw [he]; rfl
  refine ⟨k, lt_of_M ?_, by rw [hk, hU]⟩
  obtain ⟨f, hf⟩ : ∃ f : Nat, f = 2046 := ⟨_, rfl⟩
  rw [hk, M_INF f hf]
  have e1 : e = 1074 := he.trans EE_eq
  have h1 : (2 : Nat) ^ f = 2 ^ e * 2 ^ (f - e) := by rw [← Nat.pow_add]; exact congrArg _ (by omega)
  have h2 : (2 : Nat) ^ 53 ≤ 2 ^ (f - e) := Nat.pow_le_pow_right (by omega) (by omega)
  rw [p53] at h2
  have h3 : j * 2 ^ e ≤ 9007199254740992 * 2 ^ e := Nat.mul_le_mul_right _ h
  have h4 : 9007199254740992 * 2 ^ e ≤ 2 ^ (f - e) * 2 ^ e := Nat.mul_le_mul_right _ h2
  have h5 : 0 < 2 ^ e := Nat.two_pow_pos _
  have h6 : 2 ^ e * 2 ^ (f - e) < 4503599627370496 * (2 ^ e * 2 ^ (f - e)) := by
    have : 0 < 2 ^ e * 2 ^ (f - e) := Nat.mul_pos h5 (Nat.two_pow_pos _)
    omega
  rw [h1]
  rw [Nat.mul_comm (2 ^ (f - e))] at h4
  omega
/-- The word of a sign and the rung of a whole number. -/
theorem num_word (sg : Bool) (z : Nat) (n : Int) (hz : z < INF) (h : M z = n.natAbs * U) (hs : SgnOk sg n) : ∃ k, Num (W sg z) n k := by
  refine ⟨ixI sg z, ⟨⟨sg, z, rfl, Nat.le_of_lt hz, rfl⟩, by unfold ixI; cases sg <;> simp <;> omega, by unfold ixI; cases sg <;> simp <;> omega, ?_⟩⟩
  rw [Vk_ix]
  unfold V
  rw [h]
  rcases Int.lt_trichotomy n 0 with g | g | g
  · rw [hs.1 g]
    simp only [if_true]
    rw [Int.natCast_mul, ← Int.neg_mul]
    congr 1; omega
  · subst g; cases sg <;> simp
  · rw [hs.2 g]
    simp only [Bool.false_eq_true, if_false]
    rw [Int.natCast_mul]
    congr 1; omega
theorem Num.parts {x : Nat} {n k : Int} (h : Num x n k) : ∃ s r, x = W s r ∧ r < INF ∧ V s r = n * (U : Int) := by
  obtain ⟨⟨s, r, rfl, hr, rfl⟩, h1, h2, h3⟩ := h
  refine ⟨s, r, rfl, ?_, by rw [← Vk_ix]; exact h3⟩
  unfold ixI at h1 h2
  cases s <;> simp at h1 h2 <;> omega
theorem num_int (n : Int) (h : n.natAbs ≤ 9007199254740992) : ∃ m, Num (FloatKind.f64.nearest n) n m := by
  obtain ⟨z, g1, g2⟩ := nearest_faith (decide (n < 0)) n.natAbs 0
  obtain ⟨j, hj, hM⟩ := rep_U _ h
  have e : FloatKind.f64.nearest n = W (decide (n < 0)) z := by
    have : FloatKind.f64.nearest n = Ieee.double.nearest (decide (n < 0)) n.natAbs 0 := rfl
    rw [this, g1, word_W]
  have hE : ((0 : Int) + 1074).toNat = EE := by rw [EE_eq]; rfl
  have hU : (2 : Nat) ^ ((0 : Int) + 1074).toNat = U := by rw [hE]; rfl
  have h1 : (2 : Nat) ^ (-((0 : Int) + 1074)).toNat = 1 := by
    have : (-((0 : Int) + 1074)).toNat = 0 := by omega
    rw [this]
  rw [hU, h1] at g2
  have hz : z = j := g2.exact (Nat.le_of_lt hj) (by unfold Rt; rw [hM]; simp)
  subst hz
  rw [e]
  refine num_word _ z n hj hM ⟨fun g => decide_eq_true g, fun g => decide_eq_false (by omega)⟩
theorem num_unique {x y : Nat} {n k l : Int} (hx : Num x n k) (hy : Num y n l) : k = l := by
  have h := hx.val.trans hy.val.symm
  rcases Int.lt_trichotomy k l with g | g | g
  · have := Vk_lt.2 g; omega
  · exact g
  · have := Vk_lt.2 g; omega
/-- What is exact is its own DOWN and UP. -/
theorem Rk.exact {E : Int → Int} {D P m : Int} (hE : AntiI E) (h : Rk E D P) (h1 : -(INF : Int) < m) (h2 : m < INF) (e : E (Vk m) = 0) : D = m ∧ P = m := by
  have a := (h.dn.ok m h1 h2).1 (by omega)
  have b := (h.up.ok m h1 h2).1 (by omega)
  have c := h.le hE
  omega
theorem Ops.add_exact (F : Ops) {x y z : Nat} {a b k l m : Int} (hx : Num x a k) (hy : Num y b l) (hz : Num z (a + b) m) : F.aD k l = m ∧ F.aU k l = m :=
  ((F.add hx.key.pl hy.key.pl).num hx.lo hx.hi hy.lo hy.hi).exact (Ep_anti _) hz.lo hz.hi (by unfold Ep; rw [hx.val, hy.val, hz.val, Int.add_mul]; omega)
theorem Ops.mul_exact (F : Ops) {x y z : Nat} {a b k l m : Int} (hx : Num x a k) (hy : Num y b l) (hz : Num z (a * b) m) : F.mD k l = m ∧ F.mU k l = m :=
  ((F.mul hx.key.pl hy.key.pl).num hx.lo hx.hi hy.lo hy.hi).exact (Et_anti _) hz.lo hz.hi (by
    unfold Et
    rw [hx.val, hy.val, hz.val]
    have : a * (U : Int) * (b * (U : Int)) = a * b * (U : Int) * (U : Int) := by
      rw [Int.mul_assoc a, Int.mul_left_comm (U : Int) b, ← Int.mul_assoc, ← Int.mul_assoc]
    omega)
theorem Num.neg {x : Nat} {a k : Int} (h : Num x a k) : Num (B (-k)) (-a) (-k) := ⟨Key.at (pl_neg h.key.pl), by have := h.hi; omega, by have := h.lo; omega, by rw [Vk_neg, h.val, Int.neg_mul]⟩
end Go.Proofs.YtacnclofbnafiabGreatDoor

namespace Go.Proofs.YtacnclofbnafiabGreatDoor
open Go.RowKit Fl

end Go.Proofs.YtacnclofbnafiabGreatDoor

namespace Go.Proofs.YtacnclofbnafiabGreatDoor
open Go.RowKit Fl

theorem around_000_w (v a b : Nat)
    (o1 : (Ieee.double.order a v == some .lt) = false)
    (o2 : (Ieee.double.order b v == some .gt) = false)
    (o3 : (Ieee.double.order b v == some .lt) = false) (w : World) :
    Calls Tryz.prog 19 #[.float .f64 v, .float .f64 a, .float .f64 b] w fun e w' => e = .returned (.agg #[.float .f64 v, .float .f64 v]) ∧ Below w.heap.size w w' := by
  go_enter Tryz.func19, Tryz.ntmps19
  go_wp2_with fail
  refine bodyPost_ret (v := .agg #[.float .f64 v, .float .f64 v]) (by simp [results, Tryz.results19, go_sem, *]) rfl ⟨rfl, ?_⟩
  repeat (first | exact Below.refl _ _ | assumption | refine Below.drew ?_ | refine bl_drewN ?_ _ | refine Below.setCell ?_ (by first | omega | (simp; done) | (simp; omega)) _ | refine Below.alloc ?_ (by first | omega | (simp; done) | (simp; omega)) _ | refine bl_next ?_ (by assumption) | refine bl_trans ?_ (by assumption) (by first | omega | (simp; done) | (simp; omega)))

theorem around_001_w (v a b : Nat)
    (o1 : (Ieee.double.order a v == some .lt) = false)
    (o2 : (Ieee.double.order b v == some .gt) = false)
    (o3 : (Ieee.double.order b v == some .lt) = true) (w : World) :
    Calls Tryz.prog 19 #[.float .f64 v, .float .f64 a, .float .f64 b] w fun e w' => e = .returned (.agg #[.float .f64 b, .float .f64 v]) ∧ Below w.heap.size w w' := by
  go_enter Tryz.func19, Tryz.ntmps19
  go_wp2_with fail
  refine bodyPost_ret (v := .agg #[.float .f64 b, .float .f64 v]) (by simp [results, Tryz.results19, go_sem, *]) rfl ⟨rfl, ?_⟩
  repeat (first | exact Below.refl _ _ | assumption | refine Below.drew ?_ | refine bl_drewN ?_ _ | refine Below.setCell ?_ (by first | omega | (simp; done) | (simp; omega)) _ | refine Below.alloc ?_ (by first | omega | (simp; done) | (simp; omega)) _ | refine bl_next ?_ (by assumption) | refine bl_trans ?_ (by assumption) (by first | omega | (simp; done) | (simp; omega)))

theorem around_010_w (v a b : Nat)
    (o1 : (Ieee.double.order a v == some .lt) = false)
    (o2 : (Ieee.double.order b v == some .gt) = true)
    (o3 : (Ieee.double.order b v == some .lt) = false) (w : World) :
    Calls Tryz.prog 19 #[.float .f64 v, .float .f64 a, .float .f64 b] w fun e w' => e = .returned (.agg #[.float .f64 v, .float .f64 b]) ∧ Below w.heap.size w w' := by
  go_enter Tryz.func19, Tryz.ntmps19
  go_wp2_with fail
  refine bodyPost_ret (v := .agg #[.float .f64 v, .float .f64 b]) (by simp [results, Tryz.results19, go_sem, *]) rfl ⟨rfl, ?_⟩
  repeat (first | exact Below.refl _ _ | assumption | refine Below.drew ?_ | refine bl_drewN ?_ _ | refine Below.setCell ?_ (by first | omega | (simp; done) | (simp; omega)) _ | refine Below.alloc ?_ (by first | omega | (simp; done) | (simp; omega)) _ | refine bl_next ?_ (by assumption) | refine bl_trans ?_ (by assumption) (by first | omega | (simp; done) | (simp; omega)))

theorem around_100_w (v a b : Nat)
    (o1 : (Ieee.double.order a v == some .lt) = true)
    (o2 : (Ieee.double.order b v == some .gt) = false)
    (o3 : (Ieee.double.order b a == some .lt) = false) (w : World) :
    Calls Tryz.prog 19 #[.float .f64 v, .float .f64 a, .float .f64 b] w fun e w' => e = .returned (.agg #[.float .f64 a, .float .f64 v]) ∧ Below w.heap.size w w' := by
  go_enter Tryz.func19, Tryz.ntmps19
  go_wp2_with fail
  refine bodyPost_ret (v := .agg #[.float .f64 a, .float .f64 v]) (by simp [results, Tryz.results19, go_sem, *]) rfl ⟨rfl, ?_⟩
  repeat (first | exact Below.refl _ _ | assumption | refine Below.drew ?_ | refine bl_drewN ?_ _ | refine Below.setCell ?_ (by first | omega | (simp; done) | (simp; omega)) _ | refine Below.alloc ?_ (by first | omega | (simp; done) | (simp; omega)) _ | refine bl_next ?_ (by assumption) | refine bl_trans ?_ (by assumption) (by first | omega | (simp; done) | (simp; omega)))

theorem around_101_w (v a b : Nat)
    (o1 : (Ieee.double.order a v == some .lt) = true)
    (o2 : (Ieee.double.order b v == some .gt) = false)
    (o3 : (Ieee.double.order b a == some .lt) = true) (w : World) :
    Calls Tryz.prog 19 #[.float .f64 v, .float .f64 a, .float .f64 b] w fun e w' => e = .returned (.agg #[.float .f64 b, .float .f64 v]) ∧ Below w.heap.size w w' := by
  go_enter Tryz.func19, Tryz.ntmps19
  go_wp2_with fail
  refine bodyPost_ret (v := .agg #[.float .f64 b, .float .f64 v]) (by simp [results, Tryz.results19, go_sem, *]) rfl ⟨rfl, ?_⟩
  repeat (first | exact Below.refl _ _ | assumption | refine Below.drew ?_ | refine bl_drewN ?_ _ | refine Below.setCell ?_ (by first | omega | (simp; done) | (simp; omega)) _ | refine Below.alloc ?_ (by first | omega | (simp; done) | (simp; omega)) _ | refine bl_next ?_ (by assumption) | refine bl_trans ?_ (by assumption) (by first | omega | (simp; done) | (simp; omega)))

theorem around_110_w (v a b : Nat)
    (o1 : (Ieee.double.order a v == some .lt) = true)
    (o2 : (Ieee.double.order b v == some .gt) = true)
    (o3 : (Ieee.double.order b a == some .lt) = false) (w : World) :
    Calls Tryz.prog 19 #[.float .f64 v, .float .f64 a, .float .f64 b] w fun e w' => e = .returned (.agg #[.float .f64 a, .float .f64 b]) ∧ Below w.heap.size w w' := by
  go_enter Tryz.func19, Tryz.ntmps19
  go_wp2_with fail
  refine bodyPost_ret (v := .agg #[.float .f64 a, .float .f64 b]) (by simp [results, Tryz.results19, go_sem, *]) rfl ⟨rfl, ?_⟩
  repeat (first | exact Below.refl _ _ | assumption | refine Below.drew ?_ | refine bl_drewN ?_ _ | refine Below.setCell ?_ (by first | omega | (simp; done) | (simp; omega)) _ | refine Below.alloc ?_ (by first | omega | (simp; done) | (simp; omega)) _ | refine bl_next ?_ (by assumption) | refine bl_trans ?_ (by assumption) (by first | omega | (simp; done) | (simp; omega)))

end Go.Proofs.YtacnclofbnafiabGreatDoor

namespace Go.Proofs.YtacnclofbnafiabGreatDoor
open Go.RowKit Fl

end Go.Proofs.YtacnclofbnafiabGreatDoor

namespace Go.Proofs.YtacnclofbnafiabGreatDoor
open Go.RowKit Fl

/-- around: an interval that has v. -/
theorem around_any {v a b : Nat} {k : Int} (hv : Key v k) (h1 : -(INF : Int) < k) (h2 : k < INF) (ha : a < 18446744073709551616) (hb : b < 18446744073709551616) :
    ∃ A A' c e, Iv A A' c e ∧ c ≤ k ∧ k ≤ e ∧ (∀ w, Calls Tryz.prog 19 #[.float .f64 v, .float .f64 a, .float .f64 b] w fun e w' => e = .returned (.agg #[.float .f64 A, .float .f64 A']) ∧ Below w.heap.size w w') := by
  have cmp : ∀ {x y : Nat} {l : Int}, x < 18446744073709551616 → Key y l → ((Ieee.double.order x y == some .lt) = true ∧ ∃ j, Key x j ∧ j < l) ∨ (Ieee.double.order x y == some .lt) = false := fun hx hy => by
    rcases word_cases _ hx with ⟨j, hj⟩ | hj
    · rcases Int.lt_or_le j _ with g | g
      · exact .inl ⟨tlt hj hy g, j, hj, g⟩
      · exact .inr (nlt hj hy g)
    · exact .inr (by rw [hj.l]; rfl)
  have cmg : ∀ {x y : Nat} {l : Int}, x < 18446744073709551616 → Key y l → ((Ieee.double.order x y == some .gt) = true ∧ ∃ j, Key x j ∧ l < j) ∨ (Ieee.double.order x y == some .gt) = false := fun hx hy => by
    rcases word_cases _ hx with ⟨j, hj⟩ | hj
    · rcases Int.lt_or_le _ j with g | g
      · exact .inl ⟨tgt hj hy g, j, hj, g⟩
      · exact .inr (ngt hj hy g)
    · exact .inr (by rw [hj.l]; rfl)
  rcases cmg hb hv with ⟨o2, j2, kj2, g2⟩ | o2
  · rcases cmp ha hv with ⟨o1, j1, kj1, g1⟩ | o1
    · rcases cmp hb kj1 with ⟨o3, j3, kj3, g3⟩ | o3
      · have := kj3.unique kj2; omega
      · exact ⟨_, _, _, _, ⟨kj1, kj2, by omega, by omega, by omega⟩, by omega, by omega, around_110_w v a b o1 o2 o3⟩
    · rcases cmp hb hv with ⟨o3, j3, kj3, g3⟩ | o3
      · have := kj3.unique kj2; omega
      · exact ⟨_, _, _, _, ⟨hv, kj2, by omega, by omega, by omega⟩, by omega, by omega, around_010_w v a b o1 o2 o3⟩
  · rcases cmp ha hv with ⟨o1, j1, kj1, g1⟩ | o1
    · rcases cmp hb kj1 with ⟨o3, j3, kj3, g3⟩ | o3
      · exact ⟨_, _, _, _, ⟨kj3, hv, by omega, by omega, by omega⟩, by omega, by omega, around_101_w v a b o1 o2 o3⟩
      · exact ⟨_, _, _, _, ⟨kj1, hv, by omega, by omega, by omega⟩, by omega, by omega, around_100_w v a b o1 o2 o3⟩
    · rcases cmp hb hv with ⟨o3, j3, kj3, g3⟩ | o3
      · exact ⟨_, _, _, _, ⟨kj3, hv, by omega, by omega, by omega⟩, by omega, by omega, around_001_w v a b o1 o2 o3⟩
      · exact ⟨_, _, _, _, ⟨hv, hv, by omega, by omega, by omega⟩, by omega, by omega, around_000_w v a b o1 o2 o3⟩
end Go.Proofs.YtacnclofbnafiabGreatDoor
