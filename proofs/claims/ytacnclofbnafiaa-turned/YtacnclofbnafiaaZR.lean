import Derived.Test.YtacnclofbnafiaaZQ
import Derived.Test.YtacnclofbnafiaaZH
namespace Go.Proofs.Ytacnclofbnafiaa
open Go.RowKit Fl

theorem Nr.neg {E D s : Int} (h : Nr E D s) : Nr (-E) D (-s) := by
  intro j j1 j2
  have := h (-j) (by omega) (by omega)
  rw [Vk_neg, Int.neg_mul] at this
  exact ⟨fun c => by have := this.2 (by omega); omega, fun c => by have := this.1 (by omega); omega⟩
/-- How great Go's own answer can be, whatever its sign. -/
theorem Nr.abs {E D s : Int} (h : Nr E D s) (hD : 0 < D) (h1 : -(INF : Int) ≤ s) (h2 : s ≤ INF) : ((Vk s).natAbs : Int) * D * 4503599627370496 ≤ (E.natAbs : Int) * 4503599627370497 + 4503599627370496 * D := by
  rcases Int.le_total 0 E with g | g
  · have a := h.hi hD g h2
    have b := Vk_nn (h.nn g)
    rw [show ((Vk s).natAbs : Int) = Vk s by omega, show (E.natAbs : Int) = E by omega]
    exact a
  · have n := h.neg
    have a := n.hi hD (by omega) (by omega)
    have b := Vk_nn (n.nn (by omega))
    rw [Vk_neg] at a b
    rw [show ((Vk s).natAbs : Int) = -Vk s by omega, show (E.natAbs : Int) = -E by omega]
    exact a
theorem own_sub {x y : Nat} {k l : Int} (hx : Key x k) (hy : Key y l) (fk : Fin k) (fl : Fin l) : ∃ s σ, Ieee.double.sub x y = some s ∧ Key s σ ∧ Nr (Vk k - Vk l) 1 σ := by
  obtain ⟨s, r, rfl, hr, _, e1⟩ := hx.fin fk.1 fk.2
  obtain ⟨t, q, rfl, hq, _, e2⟩ := hy.fin fl.1 fl.2
  obtain ⟨sg, z, a, f, g, _⟩ := sub_fin s t r q hr hq
  rw [e1, e2] at f g
  exact ⟨_, _, a, key_word f.1, faith_place (D := 1) (by decide) f g⟩
/-- The law's 'size' of a finite complex number. -/
theorem size_ok {a b : Nat} {x y : Int} (ka : Key a x) (kb : Key b y) (hx : (x.natAbs : Int) ≤ hMax) (hy : (y.natAbs : Int) ≤ hMax) :
    ∃ h s, Key h s ∧ 0 ≤ s ∧ s < INF ∧ (∀ H, (Vk s + 1) * 4503599627370503 ≤ H * 4503599627370496 → Vk x * Vk x + Vk y * Vk y ≤ H * H) ∧ Vk s * 4503599627370496 ≤ 2 * (((Vk x).natAbs : Int) + ((Vk y).natAbs : Int)) * 4503599627370497 + 4503599627370496
      ∧ ∀ w, Calls Try.prog 74 #[.complex .f64 a b] w fun e w' => e = .returned (.float .f64 h) ∧ Below w.heap.size w w' := by
  have hb := hMax_bd
  have hI := INF_pos
  have fx : Fin x := by unfold Fin; omega
  have fy : Fin y := by unfold Fin; omega
  have va : ∀ z : Int, Vk (z.natAbs : Int) = ((Vk z).natAbs : Int) := fun z => by
    rcases Int.le_total 0 z with g | g
    · have := Vk_nn g
      rw [show (z.natAbs : Int) = z by omega]; omega
    · have := Vk_le.2 g
      rw [Vk_zero] at this
      rw [show (z.natAbs : Int) = -z by omega, Vk_neg]; omega
  have sq : ∀ z : Int, ((Vk z).natAbs : Int) * ((Vk z).natAbs : Int) = Vk z * Vk z := fun z => by
    rcases Int.le_total 0 (Vk z) with g | g
    · rw [show ((Vk z).natAbs : Int) = Vk z by omega]
    · rw [show ((Vk z).natAbs : Int) = -Vk z by omega, Int.neg_mul_neg]
  obtain ⟨h, s, ks, ok, c⟩ := hypot_key ka kb fx fy
  refine ⟨h, s, ks, ?_⟩
  rcases ok with ⟨rfl, rfl, rfl⟩ | ok
  · refine ⟨by omega, by omega, fun H hH => ?_, ?_, size_w a b h c⟩
    · rw [Vk_zero]; have := mul_self_nn H; omega
    · rw [Vk_zero]; omega
  · have f := ok.fin (by omega)
    refine ⟨f.1, f.2, fun H hH => ?_, ?_, size_w a b h c⟩
    · have q := ok.lo f.2 hH
      rcases Int.le_total (x.natAbs : Int) y.natAbs with g | g
      · rw [show max (x.natAbs : Int) y.natAbs = y.natAbs by omega, show min (x.natAbs : Int) y.natAbs = x.natAbs by omega, va, va, sq, sq] at q
        omega
      · rw [show max (x.natAbs : Int) y.natAbs = x.natAbs by omega, show min (x.natAbs : Int) y.natAbs = y.natAbs by omega, va, va, sq, sq] at q
        omega
    · have q := ok.hi (by omega)
      rcases Int.le_total (x.natAbs : Int) y.natAbs with g | g
      · rw [show max (x.natAbs : Int) y.natAbs = y.natAbs by omega, va] at q
        omega
      · rw [show max (x.natAbs : Int) y.natAbs = x.natAbs by omega, va] at q
        omega
theorem VV_T8 : (VV : Int) * 1073741824 ≤ (T8 : Int) := by
  have k : VV * 2 ^ 30 ≤ T8 := by
    unfold VV T8
    rw [← Nat.pow_add]
    exact Nat.pow_le_pow_right (by decide) (by have := EE_eq; have := HE_eq; omega)
  have e : (2 : Nat) ^ 30 = 1073741824 := by decide
  rw [e] at k
  have := Int.ofNat_le.2 k
  rw [Int.natCast_mul] at this
  exact this
end Go.Proofs.Ytacnclofbnafiaa

namespace Go.Proofs.Ytacnclofbnafiaa
open Go.RowKit Fl

/-- A whole number not below the size of a middle, and hardly above Hypot's. -/
theorem up_H (s : Int) (h : 0 ≤ s) : ∃ H, 0 ≤ H ∧ (s + 1) * 4503599627370503 ≤ H * 4503599627370496 ∧ H * 4503599627370496 ≤ (s + 1) * 4503599627370503 + 4503599627370496 := by
  refine ⟨((s + 1) * 4503599627370503) / 4503599627370496 + 1, by omega, by omega, by omega⟩
theorem nab (a b : Int) : ((a + b).natAbs : Int) ≤ (a.natAbs : Int) + (b.natAbs : Int) := by omega
theorem nab_le {a b B : Int} (h1 : a ≤ B) (h2 : -B ≤ a) (hB : B ≤ b) : (a.natAbs : Int) ≤ b := by omega
end Go.Proofs.Ytacnclofbnafiaa

namespace Go.Proofs.Ytacnclofbnafiaa
open Go.RowKit Fl

end Go.Proofs.Ytacnclofbnafiaa

namespace Go.Proofs.Ytacnclofbnafiaa
open Go.RowKit Fl

/-- How far Go's own answer is from what is exact, whatever its sign. -/
theorem Nr.err {E D s : Int} (h : Nr E D s) (hD : 0 < D) (h1 : -(INF : Int) < s) (h2 : s < INF) : (Vk s * D - E) * 4503599627370496 ≤ 2 * (E.natAbs : Int) + 3 * 4503599627370496 * D ∧ (E - Vk s * D) * 4503599627370496 ≤ 2 * (E.natAbs : Int) + 3 * 4503599627370496 * D := by
  rcases Int.le_total 0 E with g | g
  · have a := h.hi hD g (Int.le_of_lt h2)
    have b := h.lo hD g h2
    have v := nn_mul (Vk_nn (h.nn g)) (Int.le_of_lt hD)
    rw [show (E.natAbs : Int) = E by omega]
    have e : 3 * 4503599627370496 * D = 3 * (4503599627370496 * D) := by grind
    omega
  · have n := h.neg
    have a := n.hi hD (by omega) (by omega)
    have b := n.lo hD (by omega) (by omega)
    have v := nn_mul (Vk_nn (n.nn (by omega))) (Int.le_of_lt hD)
    simp only [Vk_neg, Int.neg_mul] at a b v
    rw [show (E.natAbs : Int) = -E by omega]
    have e : 3 * 4503599627370496 * D = 3 * (4503599627370496 * D) := by grind
    omega
end Go.Proofs.Ytacnclofbnafiaa

namespace Go.Proofs.Ytacnclofbnafiaa
open Go.RowKit Fl

theorem abs_le_H {a b H : Int} (hH : 0 ≤ H) (h : a * a + b * b ≤ H * H) : (a.natAbs : Int) ≤ H ∧ (b.natAbs : Int) ≤ H := by
  have f : ∀ z : Int, z * z ≤ H * H → (z.natAbs : Int) ≤ H := fun z hz => by
    apply Classical.byContradiction
    intro c
    have c1 : H + 1 ≤ (z.natAbs : Int) := by omega
    have s : (z.natAbs : Int) * (z.natAbs : Int) = z * z := Int.natAbs_mul_self
    have m := Int.mul_le_mul c1 c1 (by omega) (by omega : (0 : Int) ≤ (z.natAbs : Int))
    have e : (H + 1) * (H + 1) = H * H + 2 * H + 1 := by grind
    omega
  have := mul_self_nn a
  have := mul_self_nn b
  exact ⟨f a (by omega), f b (by omega)⟩
/-- The room: what is added by the steps is small beside the room that the law gives. -/
theorem room : 4 * ((40 * (VV : Int) + 100) * (U : Int)) + 64 * (8 * Vk (pw2 303)) + 1000 * (U : Int) ≤ (T8 : Int) * (U : Int) := by
  have hU := U_posI
  have a := mul_mono_r VV_T8 (Int.le_of_lt hU)
  have b := mul_mono_r T8_big (Int.le_of_lt hU)
  have c : 512 * Vk (pw2 303) * 4 ≤ (T8 : Int) * (U : Int) := by
    obtain ⟨g, hg⟩ : ∃ g : Nat, g = 303 := ⟨_, rfl⟩
    rw [← hg]
    have e : Vk (pw2 g) = ((2 ^ g : Nat) : Int) * (U : Int) := by
      rw [Vk_pw2, Nat.pow_add, Int.natCast_mul]; rfl
    have k : (512 * 4 * ((2 ^ g : Nat) : Int)) ≤ (T8 : Int) := by
      have k : 512 * 4 * 2 ^ g ≤ T8 := by
        unfold T8
        have h : (512 * 4 : Nat) = 2 ^ 11 := by decide
        rw [h, ← Nat.pow_add]
        exact Nat.pow_le_pow_right (by decide) (by have := EE_eq; omega)
      have := Int.ofNat_le.2 k
      rw [Int.natCast_mul] at this
      exact this
    have m := mul_mono_r k (Int.le_of_lt hU)
    rw [e]
    clear hg
    generalize ((2 ^ g : Nat) : Int) = Y at *
    have : 512 * (Y * (U : Int)) * 4 = 512 * 4 * Y * (U : Int) := by grind
    omega
  have e1 : 4 * ((40 * (VV : Int) + 100) * (U : Int)) = 160 * ((VV : Int) * (U : Int)) + 400 * (U : Int) := by grind
  have e2 : (VV : Int) * 1073741824 * (U : Int) = (VV : Int) * (U : Int) * 1073741824 := by grind
  rw [e2] at a
  rw [e1]
  generalize (VV : Int) * (U : Int) = Y1 at *
  generalize (T8 : Int) * (U : Int) = Y2 at *
  have v : 0 ≤ Vk (pw2 303) := Vk_nn (by have := pw2_bd 303 (by omega); omega)
  generalize Vk (pw2 303) = Y3 at *
  omega
end Go.Proofs.Ytacnclofbnafiaa

namespace Go.Proofs.Ytacnclofbnafiaa
open Go.RowKit Fl

end Go.Proofs.Ytacnclofbnafiaa

namespace Go.Proofs.Ytacnclofbnafiaa
open Go.RowKit Fl

/-- The place of a power of 2, from the least normal one on. -/
def pwn (n : Nat) : Int := (n : Int) * 4503599627370496 + 4503599627370496
theorem Vk_pwn (n : Nat) : Vk (pwn n) = ((2 ^ (52 + n) : Nat) : Int) := by
  unfold pwn
  rw [Vk_of_nn (by omega), show ((n : Int) * 4503599627370496 + 4503599627370496).natAbs = n * 4503599627370496 + 4503599627370496 by omega, M_pow]
theorem pwn_mono {a b : Nat} (h : a ≤ b) : pwn a ≤ pwn b := by unfold pwn; omega
theorem pwn_bd {n : Nat} (h : n ≤ 2045) : 0 < pwn n ∧ pwn n < INF := by rw [INF_eq]; unfold pwn; omega
theorem Vk_pwn_mul {a b c : Nat} (h : a + b = c + 1022) : Vk (pwn a) * Vk (pwn b) = Vk (pwn c) * (U : Int) := by
  rw [Vk_pwn, Vk_pwn, Vk_pwn, ← Int.natCast_mul, ← Int.natCast_mul]
  have k : 2 ^ (52 + a) * 2 ^ (52 + b) = 2 ^ (52 + c) * U := by
    unfold U
    rw [← Nat.pow_add, ← Nat.pow_add, show 52 + a + (52 + b) = 52 + c + EE by rw [EE_eq]; omega]
  rw [k]
theorem Vk_pwn_succ (n : Nat) : Vk (pwn (n + 1)) = 2 * Vk (pwn n) := by
  rw [Vk_pwn, Vk_pwn, show 52 + (n + 1) = (52 + n) + 1 by omega, Nat.pow_succ]
  generalize 2 ^ (52 + n) = Y
  omega
theorem Ops.mU_le (F : Ops) {a b : Int} {i j c : Nat} (h : i + j = c + 1022) (hi : i ≤ 2045) (hj : j ≤ 2045) (hc : c ≤ 2045) (a0 : 0 ≤ a) (a1 : a ≤ pwn i) (b0 : 0 ≤ b) (b1 : b ≤ pwn j) : 0 ≤ F.mU a b ∧ F.mU a b ≤ pwn c := by
  have p1 := pwn_bd hi
  have p2 := pwn_bd hj
  have p3 := pwn_bd hc
  have fa : Fin a := Fin.of a0 (by omega)
  have fb : Fin b := Fin.of b0 (by omega)
  refine ⟨(F.mul_pos fa.pl fb.pl a0 b0).2, ?_⟩
  refine (((F.mul fa.pl fb.pl).num fa.1 fa.2 fb.1 fb.2).up.ok (pwn c) (by omega) p3.2).1 ?_
  have m := Int.mul_le_mul (Vk_le.2 a1) (Vk_le.2 b1) (Vk_nn b0) (Int.le_trans (Vk_nn a0) (Vk_le.2 a1))
  rw [Vk_pwn_mul h] at m
  unfold Et
  omega
theorem Ops.aU_le (F : Ops) {a b : Int} {i : Nat} (hi : i + 1 ≤ 2045) (a0 : 0 ≤ a) (a1 : a ≤ pwn i) (b0 : 0 ≤ b) (b1 : b ≤ pwn i) : 0 ≤ F.aU a b ∧ F.aU a b ≤ pwn (i + 1) := by
  have p1 := pwn_bd (show i ≤ 2045 by omega)
  have fa : Fin a := Fin.of a0 (by omega)
  have fb : Fin b := Fin.of b0 (by omega)
  have p3 := pwn_bd hi
  have d := Vk_pwn_succ i
  refine ⟨F.aU_nn fa.pl fb.pl a0 b0, ?_⟩
  generalize pwn (i + 1) = j at *
  refine (((F.add fa.pl fb.pl).num fa.1 fa.2 fb.1 fb.2).up.ok j (by omega) p3.2).1 ?_
  have m1 := Vk_le.2 a1
  have m2 := Vk_le.2 b1
  unfold Ep
  omega
theorem Ops.sU_le (F : Ops) {a : Int} {i g : Nat} (h : i + i = g + 1022) (hi : i ≤ 2045) (hg : g ≤ 2045) (a0 : 0 ≤ a) (a1 : a ≤ pwn g) : 0 ≤ F.sU a ∧ F.sU a ≤ pwn i := by
  have p1 := pwn_bd hi
  have p2 := pwn_bd hg
  have fa : Fin a := Fin.of a0 (by omega)
  refine ⟨(F.sU_fin fa.pl a0).1, ?_⟩
  refine (((F.sqrt fa.pl a0).num a0 fa.2).up.ok (pwn i) (by omega) p1.2).1 ?_
  have m := mul_mono_r (Vk_le.2 a1) (Int.le_of_lt U_posI)
  rw [← Vk_pwn_mul h] at m
  have v := Vk_nn (Int.le_of_lt p1.1)
  unfold Er
  rw [if_neg (by omega)]
  omega
theorem Ops.len_le (F : Ops) {a b s s' : Int} {i σ σ' i' g : Nat} (hs : s = pwn σ) (hs' : s' = pwn σ') (e1 : σ + σ' = 2044) (e2 : i + σ = i' + 1022) (e3 : i' + i' = g + 1022) (h1 : i ≤ 2040) (h2 : i' ≤ 2040) (h3 : g ≤ 2040) (a0 : 0 ≤ a) (a1 : a ≤ pwn i) (b0 : 0 ≤ b) (b1 : b ≤ pwn i) :
    F.len s s' a b ≤ pwn (i + 1) := by
  subst hs
  subst hs'
  have q1 := pwn_bd (show σ ≤ 2045 by omega)
  have q2 := pwn_bd (show σ' ≤ 2045 by omega)
  obtain ⟨c1, c2⟩ := F.mU_le e2 (by omega) (by omega) (by omega) a0 a1 (Int.le_of_lt q1.1) (Int.le_refl _)
  obtain ⟨d1, d2⟩ := F.mU_le e2 (by omega) (by omega) (by omega) b0 b1 (Int.le_of_lt q1.1) (Int.le_refl _)
  obtain ⟨f1, f2⟩ := F.mU_le e3 (by omega) (by omega) (by omega) c1 c2 c1 c2
  obtain ⟨g1, g2⟩ := F.mU_le e3 (by omega) (by omega) (by omega) d1 d2 d1 d2
  obtain ⟨k1, k2⟩ := F.aU_le (by omega) f1 f2 g1 g2
  obtain ⟨l1, l2⟩ := F.sU_le (i := i' + 1) (g := g + 2) (by omega) (by omega) (by omega) k1 (Int.le_trans k2 (pwn_mono (by omega)))
  exact (F.mU_le (c := i + 1) (by omega) (by omega) (by omega) (by omega) l1 l2 (Int.le_of_lt q2.1) (Int.le_refl _)).2
theorem LenOk.le {F : Ops} {a b m : Int} {n : Nat} (hn : 622 ≤ n) (hn2 : n ≤ 1722) (ha : (a.natAbs : Int) ≤ pwn n) (hb : (b.natAbs : Int) ≤ pwn n) (h : LenOk F a b m) : m ≤ pwn (n + 1) := by
  have p := pwn_mono (show n ≤ n + 1 by omega)
  cases h with
  | l _ => omega
  | r _ => omega
  | one _ _ h1 h2 =>
    have e : (6858982232485265408 : Int) = pwn 1522 := rfl
    rw [e] at h1
    rcases Nat.le_total n 1522 with g | g
    · exact F.len_le (i := n) (i' := n) (g := n + n - 1022) (σ := 1022) (σ' := 1022) rfl rfl rfl rfl (by omega) (by omega) (by omega) (by omega) (by omega) ha (by omega) hb
    · exact Int.le_trans (F.len_le (i := 1522) (i' := 1522) (g := 2022) (σ := 1022) (σ' := 1022) rfl rfl rfl rfl rfl (by omega) (by omega) (by omega) (by omega) (by omega) (by omega) (by omega)) (pwn_mono (by omega))
  | big _ _ h1 =>
    have e : (6858982232485265408 : Int) = pwn 1522 := rfl
    rw [e] at h1
    have g : 1522 < n := by unfold pwn at h1 ha hb; omega
    exact F.len_le (i := n) (i' := n - 600) (g := n - 600 + (n - 600) - 1022) (σ := 422) (σ' := 1622) rfl rfl rfl (by omega) (by omega) (by omega) (by omega) (by omega) (by omega) ha (by omega) hb
  | small _ _ h1 =>
    have e : (2805742567851819008 : Int) = pwn 622 := rfl
    rw [e] at h1
    exact Int.le_trans (F.len_le (i := 622) (i' := 1222) (g := 1422) (σ := 1622) (σ' := 422) rfl rfl rfl rfl rfl (by omega) (by omega) (by omega) (by omega) (by omega) (by omega) (by omega)) (pwn_mono (by omega))
/-- Modest boxes have a disc about them. -/
theorem Ard.fits {F : Ops} {k l m n u v c t : Int} (h : Ard F k l m n u v c) (kl : k ≤ l) (mn : m ≤ n) (k1 : -pw2 601 ≤ k) (l1 : l ≤ pw2 601) (m1 : -pw2 601 ≤ m) (n1 : n ≤ pw2 601) (t0 : 0 ≤ t) (t1 : t ≤ pw2 609) : F.aU c t < INF := by
  have p1 := pw2_bd 601 (by omega)
  have p2 := pw2_bd 602 (by omega)
  obtain ⟨u1, u2⟩ := h.mu.mid kl (by omega) (by omega)
  obtain ⟨v1, v2⟩ := h.mv.mid mn (by omega) (by omega)
  obtain ⟨a1, a2, a3, _⟩ := F.a_within (e := 601) h.fl h.fu.neg (by omega) (by omega) (by omega)
  obtain ⟨b1, b2, b3, _⟩ := F.a_within (e := 601) h.fu h.fk.neg (by omega) (by omega) (by omega)
  obtain ⟨c1, c2, c3, _⟩ := F.a_within (e := 601) h.fn h.fv.neg (by omega) (by omega) (by omega)
  obtain ⟨d1, d2, d3, _⟩ := F.a_within (e := 601) h.fv h.fm.neg (by omega) (by omega) (by omega)
  have e2 : pw2 (601 + 1) = pwn 1624 := rfl
  rw [e2] at a1 a3 b1 b3 c1 c3 d1 d3
  obtain ⟨q1, q2⟩ := h.pl
  have c0 := (h.len.ge q1 q2).2.1
  have L := h.len.le (n := 1624) (by omega) (by omega) (by omega) (by omega)
  have e3 : pw2 609 = pwn 1631 := rfl
  rw [e3] at t1
  have := (F.aU_le (i := 1631) (by omega) c0 (Int.le_trans L (pwn_mono (by omega))) t0 t1).2
  have := (pwn_bd (show 1631 + 1 ≤ 2045 by omega)).2
  omega
end Go.Proofs.Ytacnclofbnafiaa

namespace Go.Proofs.Ytacnclofbnafiaa
open Go.RowKit Fl

theorem err_mid {x s u A a1 a2 : Int} (x1 : x ≤ 2 * A) (x2 : -(2 * A) ≤ x) (e1 : (s * 1 - x) * 4503599627370496 ≤ 2 * a1 + 3 * 4503599627370496 * 1) (e2 : (x - s * 1) * 4503599627370496 ≤ 2 * a1 + 3 * 4503599627370496 * 1) (f1 : (u * 2 - s) * 4503599627370496 ≤ 2 * a2 + 3 * 4503599627370496 * 2) (f2 : (s - u * 2) * 4503599627370496 ≤ 2 * a2 + 3 * 4503599627370496 * 2)
    (g1 : a1 = x ∨ a1 = -x) (g2 : a2 = s ∨ a2 = -s) : (2 * u - x) * 4503599627370496 ≤ 9 * A + 20 * 4503599627370496 ∧ (x - 2 * u) * 4503599627370496 ≤ 9 * A + 20 * 4503599627370496 := by
  rcases g1 with g | g <;> rcases g2 with k | k <;> subst g <;> subst k <;> constructor <;> omega
/-- The middle of a modest interval is near (k + l) / 2. -/
theorem MidOk.near {k l u A : Int} (h : MidOk k l u) (fu : Fin u) (k1 : (k.natAbs : Int) ≤ pw2 300) (l1 : (l.natAbs : Int) ≤ pw2 300) (a1 : Vk k ≤ A) (a2 : -A ≤ Vk k) (a3 : Vk l ≤ A) (a4 : -A ≤ Vk l) :
    (2 * Vk u - (Vk k + Vk l)) * 4503599627370496 ≤ 9 * A + 20 * 4503599627370496 ∧ (Vk k + Vk l - 2 * Vk u) * 4503599627370496 ≤ 9 * A + 20 * 4503599627370496 := by
  cases h with
  | sum a s1 s2 b =>
    obtain ⟨e1, e2⟩ := a.err (by omega) s1 s2
    obtain ⟨f1, f2⟩ := b.err (by omega) fu.1 fu.2
    exact err_mid (by omega) (by omega) e1 e2 f1 f2 (by omega) (by omega)
  | half a c _ _ _ =>
    exfalso
    have p := pw2_bd 301 (by omega)
    have d : Vk (pw2 301) = 2 * Vk (pw2 300) := Vk_pw2_succ 300
    have v1 := Vk_abs k1
    have v2 := Vk_abs l1
    have s1 := a.fin (pw2 301) (by omega) (by omega) (by omega)
    have s2 := a.neg.fin (pw2 301) (by omega) (by omega) (by omega)
    omega
theorem reach_lin {l k u r A : Int} (_kl : k ≤ l) (a1 : l ≤ A) (a2 : -A ≤ k) (n1 : (2 * u - (k + l)) * 4503599627370496 ≤ 9 * A + 20 * 4503599627370496) (n2 : (k + l - 2 * u) * 4503599627370496 ≤ 9 * A + 20 * 4503599627370496)
    (h : r * 4503599627370496 ≤ (l - u) * 4503599627370497 + 4503599627370496 ∨ r * 4503599627370496 ≤ (u - k) * 4503599627370497 + 4503599627370496) : 2 * r * 4503599627370496 ≤ (l - k) * 4503599627370496 + 12 * A + 30 * 4503599627370496 := by
  rcases h with h | h <;> omega
/-- How far the ends of a modest interval are from its middle. -/
theorem reach_up {F : Ops} {k l u A : Int} (h : MidOk k l u) (fk : Fin k) (fl : Fin l) (fu : Fin u) (kl : k ≤ l) (k1 : (k.natAbs : Int) ≤ pw2 300) (l1 : (l.natAbs : Int) ≤ pw2 300) (a1 : Vk k ≤ A) (a2 : -A ≤ Vk k) (a3 : Vk l ≤ A) (a4 : -A ≤ Vk l) :
    0 ≤ max (F.aU l (-u)) (F.aU u (-k)) ∧ max (F.aU l (-u)) (F.aU u (-k)) ≤ pw2 301 ∧ 2 * Vk (max (F.aU l (-u)) (F.aU u (-k))) * 4503599627370496 ≤ (Vk l - Vk k) * 4503599627370496 + 12 * A + 30 * 4503599627370496 := by
  obtain ⟨n1, n2⟩ := h.near fu k1 l1 a1 a2 a3 a4
  have p := pw2_bd 300 (by omega)
  have p1 := pw2_bd 301 (by omega)
  obtain ⟨u1, u2⟩ := h.mid kl (by omega) (by omega)
  have e1 : pw2 (300 + 1) = pw2 301 := rfl
  obtain ⟨b1, b2, b3, b4, b5⟩ := F.a_within (e := 300) fl fu.neg (by omega) (by omega) (by omega)
  obtain ⟨c1, c2, c3, c4, c5⟩ := F.a_within (e := 300) fu fk.neg (by omega) (by omega) (by omega)
  rw [e1] at b1 b3 c1 c3
  have v1 := Vk_le.2 u1
  have v2 := Vk_le.2 u2
  have vl := Vk_le.2 kl
  obtain ⟨z1, t1⟩ := F.aU_tight fl fu.neg (by rw [Vk_neg]; omega) b5.2
  obtain ⟨z2, t2⟩ := F.aU_tight fu fk.neg (by rw [Vk_neg]; omega) c5.2
  rw [Vk_neg] at t1 t2
  clear k1 l1
  refine ⟨by omega, by omega, ?_⟩
  rcases Int.le_total (F.aU l (-u)) (F.aU u (-k)) with g | g
  · rw [show max (F.aU l (-u)) (F.aU u (-k)) = F.aU u (-k) by omega]
    exact reach_lin vl a3 a2 n1 n2 (.inr t2)
  · rw [show max (F.aU l (-u)) (F.aU u (-k)) = F.aU l (-u) by omega]
    exact reach_lin vl a3 a2 n1 n2 (.inl t1)
theorem diff_lin {l k hl hk d A a1 a2 a3 : Int} (x1 : l ≤ A) (x2 : -A ≤ k) (x3 : k ≤ l) (e1 : (l - hl * 2) * 4503599627370496 ≤ 2 * a1 + 3 * 4503599627370496 * 2) (_e1' : (hl * 2 - l) * 4503599627370496 ≤ 2 * a1 + 3 * 4503599627370496 * 2) (e2 : (hk * 2 - k) * 4503599627370496 ≤ 2 * a2 + 3 * 4503599627370496 * 2) (_e2' : (k - hk * 2) * 4503599627370496 ≤ 2 * a2 + 3 * 4503599627370496 * 2)
    (e3 : (hl - hk - d * 1) * 4503599627370496 ≤ 2 * a3 + 3 * 4503599627370496 * 1) (g1 : a1 ≤ A) (g2 : a2 ≤ A) (g3 : a3 = hl - hk ∨ a3 = -(hl - hk)) : (l - k) * 4503599627370496 ≤ 2 * d * 4503599627370496 + 10 * A + 30 * 4503599627370496 := by
  rcases g3 with g | g <;> subst g <;> omega
/-- The law's half of a width, against the width. -/
theorem half_width {k l : Int} {X1 X2 : Nat} {A : Int} (h1 : Key X1 k) (h2 : Key X2 l) (fk : Fin k) (fl : Fin l) (kl : k ≤ l) (k1 : (k.natAbs : Int) ≤ pw2 300) (l1 : (l.natAbs : Int) ≤ pw2 300) (a1 : ((Vk k).natAbs : Int) ≤ A) (a3 : ((Vk l).natAbs : Int) ≤ A) :
    ∃ p q d δ, Ieee.double.div X2 4611686018427387904 = some p ∧ Ieee.double.div X1 4611686018427387904 = some q ∧ Ieee.double.sub p q = some d ∧ Key d δ ∧ (δ.natAbs : Int) ≤ pw2 302 ∧ (Vk l - Vk k) * 4503599627370496 ≤ 2 * Vk δ * 4503599627370496 + 10 * A + 30 * 4503599627370496 := by
  have hI := INF_pos
  have p0 := pw2_bd 300 (by omega)
  have p1 := pw2_bd 301 (by omega)
  have p2 := pw2_bd 302 (by omega)
  have d1 : Vk (pw2 301) = 2 * Vk (pw2 300) := Vk_pw2_succ 300
  have d2 : Vk (pw2 302) = 2 * Vk (pw2 301) := Vk_pw2_succ 301
  have v1 := Vk_abs k1
  have v2 := Vk_abs l1
  have pos := Vk_nn (Int.le_of_lt p0.1)
  obtain ⟨p, ρ, e1, kp, np⟩ := own_half h2 fl.1 fl.2
  obtain ⟨q, τ, e2, kq, nq⟩ := own_half h1 fk.1 fk.2
  have i1 := np.fin (pw2 300) (by omega) (by omega) (by omega)
  have i2 := np.neg.fin (pw2 300) (by omega) (by omega) (by omega)
  have i3 := nq.fin (pw2 300) (by omega) (by omega) (by omega)
  have i4 := nq.neg.fin (pw2 300) (by omega) (by omega) (by omega)
  have fp : Fin ρ := by unfold Fin; omega
  have fq : Fin τ := by unfold Fin; omega
  obtain ⟨d, δ, e3, kd, nd⟩ := own_sub kp kq fp fq
  have w1 := Vk_le.2 i1
  have w2 := Vk_le.2 i2
  have w3 := Vk_le.2 i3
  have w4 := Vk_le.2 i4
  rw [Vk_neg] at w2 w4
  have j1 := nd.fin (pw2 302) (by omega) (by omega) (by omega)
  have j2 := nd.neg.fin (pw2 302) (by omega) (by omega) (by omega)
  have fd : Fin δ := by unfold Fin; omega
  obtain ⟨r1, r1'⟩ := np.err (by omega) fp.1 fp.2
  obtain ⟨r2, r2'⟩ := nq.err (by omega) fq.1 fq.2
  obtain ⟨r3, r3'⟩ := nd.err (by omega) fd.1 fd.2
  refine ⟨p, q, d, δ, e1, e2, e3, kd, nab_le j1 (by omega) (Int.le_refl _), ?_⟩
  have vl := Vk_le.2 kl
  have b1 : Vk l ≤ A := by omega
  have b2 : -A ≤ Vk k := by omega
  clear k1 l1
  refine diff_lin b1 b2 vl r1' r1 r2 r2' r3' a3 a1 (by clear a1 a3 r1 r1' r2 r2' r3 r3'; omega)
theorem disc_lin {c r w Hr Hw e T : Int} (hT : 1267650600228229401496703205376 ≤ T) (r0 : 0 ≤ r) (w0 : 0 ≤ w) (h1 : c * 4503599627370496 ≤ (Hr + 2 * e) * 4503599627370503 + 2 * 4503599627370496) (h2 : Hr * 4503599627370496 ≤ (r + 1) * 4503599627370503 + 4503599627370496) (h3 : e * 4503599627370496 ≤ 11 * Hw + 31 * 4503599627370496)
    (h4 : Hw * 4503599627370496 ≤ (w + 1) * 4503599627370503 + 4503599627370496) : c * 17592186044416 ≤ r * 17592186044432 + w * 16 + 17592186044416 * T := by
  omega
theorem le_e {a d A : Int} (h1 : 2 * a * 4503599627370496 ≤ d * 4503599627370496 + 12 * A + 30 * 4503599627370496) {δ : Int} (h2 : d * 4503599627370496 ≤ 2 * δ * 4503599627370496 + 10 * A + 30 * 4503599627370496) : a ≤ (δ.natAbs : Int) + (11 * A / 4503599627370496 + 31) := by
  omega
theorem sq_up {a b : Int} (h0 : 0 ≤ a) (h : a ≤ b) : a * a ≤ b * b := Int.mul_le_mul h h h0 (Int.le_trans h0 h)
theorem size_bd {s X Y P Q : Int} (hP : 1 ≤ P) (hQ : Q = 8 * P) (h : s * 4503599627370496 ≤ 2 * (X + Y) * 4503599627370497 + 4503599627370496) (hx : X ≤ P) (hy : Y ≤ P) : s ≤ Q := by omega
/-- The law's 'size', with a bound of its place. -/
theorem size_le {a b : Nat} {x y : Int} (ka : Key a x) (kb : Key b y) (hx : (x.natAbs : Int) ≤ pw2 302) (hy : (y.natAbs : Int) ≤ pw2 302) : ∃ h s H, Key h s ∧ 0 ≤ s ∧ s ≤ pw2 800 ∧ 0 ≤ H ∧ Vk x * Vk x + Vk y * Vk y ≤ H * H ∧ H * 4503599627370496 ≤ (Vk s + 1) * 4503599627370503 + 4503599627370496
    ∧ ∀ w, Calls Try.prog 74 #[.complex .f64 a b] w fun e w' => e = .returned (.float .f64 h) ∧ Below w.heap.size w w' := by
  have p := pw2_bd 302 (by omega)
  have m : pw2 305 ≤ pw2 800 := pw2_mono (by omega)
  obtain ⟨h, s, ks, s0, s1, f, up, c⟩ := size_ok ka kb (by omega) (by omega)
  obtain ⟨H, H0, h1, h2⟩ := up_H (Vk s) (Vk_nn s0)
  refine ⟨h, s, H, ks, s0, Int.le_trans (Vk_le.1 ?_) m, H0, f H h1, h2, c⟩
  have va := Vk_abs hx
  have vb := Vk_abs hy
  have d1 : Vk (pw2 303) = 2 * Vk (pw2 302) := Vk_pw2_succ 302
  have d2 : Vk (pw2 304) = 2 * Vk (pw2 303) := Vk_pw2_succ 303
  have d3 : Vk (pw2 305) = 2 * Vk (pw2 304) := Vk_pw2_succ 304
  have one : 1 ≤ Vk (pw2 302) := by
    have := Vk_le.2 (show (1 : Int) ≤ pw2 302 by omega)
    rw [show Vk 1 = 1 from rfl] at this
    exact this
  exact size_bd one (by omega) up (by omega) (by omega)
-- the disc about a modest box: its radius, against half the diagonal
set_option maxHeartbeats 4000000 in
theorem toDisc_tight {F : Ops} {k l m n u v c : Int} (h : Ard F k l m n u v c) (kl : k ≤ l) (mn : m ≤ n) (k1 : (k.natAbs : Int) ≤ pw2 300) (l1 : (l.natAbs : Int) ≤ pw2 300) (m1 : (m.natAbs : Int) ≤ pw2 300) (n1 : (n.natAbs : Int) ≤ pw2 300) {X1 X2 X3 X4 : Nat} (h1 : Key X1 k) (h2 : Key X2 l) (h3 : Key X3 m) (h4 : Key X4 n) {x y : Nat} {ξ η : Int} (kx : Key x ξ) (ky : Key y η) (ξ1 : ξ = max (k.natAbs : Int) l.natAbs) (η1 : η = max (m.natAbs : Int) n.natAbs) :
    ∃ p1 q1 d1 p2 q2 d2 r s, Ieee.double.div X2 4611686018427387904 = some p1 ∧ Ieee.double.div X1 4611686018427387904 = some q1 ∧ Ieee.double.sub p1 q1 = some d1 ∧ Ieee.double.div X4 4611686018427387904 = some p2 ∧ Ieee.double.div X3 4611686018427387904 = some q2 ∧ Ieee.double.sub p2 q2 = some d2
      ∧ (∀ w, Calls Try.prog 74 #[.complex .f64 d1 d2] w fun e w' => e = .returned (.float .f64 r) ∧ Below w.heap.size w w') ∧ (∀ w, Calls Try.prog 74 #[.complex .f64 x y] w fun e w' => e = .returned (.float .f64 s) ∧ Below w.heap.size w w')
      ∧ ∀ w, Calls Try.prog 81 #[.float .f64 (B (F.aU c 0)), .float .f64 r, .float .f64 s] w fun e w' => e = .returned (.bool true) ∧ Below w.heap.size w w' := by
  have hI := INF_pos
  have p300 := pw2_bd 300 (by omega)
  have p302 := pw2_bd 302 (by omega)
  have p301 := pw2_bd 301 (by omega)
  have p601 := pw2_mono (show 300 ≤ 601 by omega)
  have lt := h.fits (t := 0) kl mn (by omega) (by omega) (by omega) (by omega) (Int.le_refl _) (Int.le_of_lt (pw2_bd 609 (by omega)).1)
  obtain ⟨cI, _, c0, _, _, z⟩ := h.rad pl_zero (Int.le_refl _) lt
  have pc := (h.len.ge h.pl.1 h.pl.2)
  -- the greater sizes
  have sx : (ξ.natAbs : Int) ≤ pw2 300 := by omega
  have sy : (η.natAbs : Int) ≤ pw2 300 := by omega
  have p2 := pw2_mono (show 300 ≤ 302 by omega)
  obtain ⟨s, σ, Hw, ks, s0, s1, Hw0, fs, w2, cs⟩ := size_le kx ky (by omega) (by omega)
  have ab := abs_le_H Hw0 fs
  have va : ∀ z : Int, Vk (z.natAbs : Int) = ((Vk z).natAbs : Int) := fun z => by
    rcases Int.le_total 0 z with g | g
    · have := Vk_nn g
      rw [show (z.natAbs : Int) = z by omega]; omega
    · have := Vk_le.2 g
      rw [Vk_zero] at this
      rw [show (z.natAbs : Int) = -z by omega, Vk_neg]; omega
  have up : ∀ z t : Int, (z.natAbs : Int) ≤ t → ((Vk t).natAbs : Int) ≤ Hw → ((Vk z).natAbs : Int) ≤ Hw := fun z t a b => by
    have q := Vk_le.2 a
    rw [va] at q
    omega
  have bk := up k ξ (by omega) ab.1
  have bl := up l ξ (by omega) ab.1
  have bm := up m η (by omega) ab.2
  have bn := up n η (by omega) ab.2
  clear up ab ξ1 η1
  obtain ⟨p1, q1, d1, δ1, e1, e2, e3, kd1, f1, g1⟩ := half_width h1 h2 h.fk h.fl kl k1 l1 bk bl
  obtain ⟨p2, q2, d2, δ2, e4, e5, e6, kd2, f2, g2⟩ := half_width h3 h4 h.fm h.fn mn m1 n1 bm bn
  obtain ⟨r, ρ, Hr, kr, r0, r1, Hr0, sq, y2, cr⟩ := size_le kd1 kd2 f1 f2
  have A1 : Vk k ≤ Hw := by omega
  have A2 : -Hw ≤ Vk k := by omega
  have A3 : Vk l ≤ Hw := by omega
  have A4 : -Hw ≤ Vk l := by omega
  have A5 : Vk m ≤ Hw := by omega
  have A6 : -Hw ≤ Vk m := by omega
  have A7 : Vk n ≤ Hw := by omega
  have A8 : -Hw ≤ Vk n := by omega
  obtain ⟨i0, i1, i2⟩ := reach_up (F := F) h.mu h.fk h.fl h.fu kl k1 l1 A1 A2 A3 A4
  obtain ⟨j0, j1, j2⟩ := reach_up (F := F) h.mv h.fm h.fn h.fv mn m1 n1 A5 A6 A7 A8
  have t1 := le_e i2 g1
  have t2 := le_e j2 g2
  have bd : ∀ z : Int, ((Vk z).natAbs : Int) * ((Vk z).natAbs : Int) = Vk z * Vk z := fun z => Int.natAbs_mul_self
  have e0 : 0 ≤ 11 * Hw / 4503599627370496 + 31 := by omega
  have e9 : (11 * Hw / 4503599627370496 + 31) * 4503599627370496 ≤ 11 * Hw + 31 * 4503599627370496 := by omega
  clear k1 l1 m1 n1 bk bl bm bn f1 f2 sx sy A1 A2 A3 A4 A5 A6 A7 A8 g1 g2 i2 j2
  generalize 11 * Hw / 4503599627370496 + 31 = E at *
  have q1' := bd δ1
  have q2' := bd δ2
  rw [← q1', ← q2'] at sq
  clear q1' q2' bd va
  have n1' : (0 : Int) ≤ ((Vk δ1).natAbs : Int) := Int.natCast_nonneg _
  have n2' : (0 : Int) ≤ ((Vk δ2).natAbs : Int) := Int.natCast_nonneg _
  generalize ((Vk δ1).natAbs : Int) = D1 at *
  generalize ((Vk δ2).natAbs : Int) = D2 at *
  have tr := tri (c := E) (d := E) (S := 2 * E) Hr0 (by omega) sq (by have := mul_self_nn E; have e : 2 * E * (2 * E) = 4 * (E * E) := by grind
                                                                      omega)
  have o1 := sq_up (Vk_nn i0) t1
  have o2 := sq_up (Vk_nn j0) t2
  have L := LenOk.tight2 (H := Hr + 2 * E) (Fin.of i0 (by omega)) (Fin.of j0 (by omega)) h.len cI (by omega) (by omega)
  have ce : F.aU c 0 ≤ c := by
    have fc := Fin.of pc.2.1 cI
    have f0 : Fin 0 := Fin.of (Int.le_refl _) (by omega)
    refine (((F.add fc.pl f0.pl).num fc.1 fc.2 f0.1 f0.2).up.ok c fc.1 fc.2).1 ?_
    unfold Ep
    rw [Vk_zero]
    omega
  have vc := Vk_le.2 ce
  have L2 := disc_lin (T := (T8 : Int)) (c := Vk (F.aU c 0)) T8_big (Vk_nn r0) (Vk_nn s0) (by omega) y2 e9 w2
  refine ⟨p1, q1, d1, p2, q2, d2, r, s, e1, e2, e3, e4, e5, e6, cr, cs, bound_ok (Key.at (Fin.of z lt).pl) kr ks r0 r1 s0 s1 L2⟩
end Go.Proofs.Ytacnclofbnafiaa
