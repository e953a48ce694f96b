import Derived.Test.YtacnclofbnafiaaZQ
import Derived.Test.YtacnclofbnafiaaZH
import Derived.Test.YtacnclofbnafiaaX7a
namespace Go.Proofs.Ytacnclofbnafiaa
open Go.RowKit Fl

theorem Nr.neg {E D s : Int} (h : Nr E D s) : Nr (-E) D (-s) := by
  intro j j1 j2
  have := h (-j) (by omega) (by omega)
  rw [Vk_neg, Int.neg_mul] at this
  exact ⟨fun c => by have := this.2 (by omega); omega, fun c => by have := this.1 (by omega); omega⟩
/-- How great Go's own answer can be, whatever its sign. -/
theorem Nr.abs {E D s : Int} (h : Nr E D s) (hD : 0 < D) (h1 : -(INF : Int) ≤ s) (h2 : s ≤ INF) : ((Vk s).natAbs : Int) * D * 4503599627370496 ≤ (E.natAbs : Int) * 4503599627370497 + 4503599627370496 * D := by
  rcases Int.le_total 0 E with g | g
  · have a := h.hi hD g h2
    have b := Vk_nn (h.nn g)
    rw [show ((Vk s).natAbs : Int) = Vk s by omega, show (E.natAbs : Int) = E by omega]
    exact a
  · have n := h.neg
    have a := n.hi hD (by omega) (by omega)
    have b := Vk_nn (n.nn (by omega))
    rw [Vk_neg] at a b
    rw [show ((Vk s).natAbs : Int) = -Vk s by omega, show (E.natAbs : Int) = -E by omega]
    exact a
theorem own_sub {x y : Nat} {k l : Int} (hx : Key x k) (hy : Key y l) (fk : Fin k) (fl : Fin l) : ∃ s σ, Ieee.double.sub x y = some s ∧ Key s σ ∧ Nr (Vk k - Vk l) 1 σ := by
  obtain ⟨s, r, rfl, hr, _, e1⟩ := hx.fin fk.1 fk.2
  obtain ⟨t, q, rfl, hq, _, e2⟩ := hy.fin fl.1 fl.2
  obtain ⟨sg, z, a, f, g, _⟩ := sub_fin s t r q hr hq
  rw [e1, e2] at f g
  exact ⟨_, _, a, key_word f.1, faith_place (D := 1) (by decide) f g⟩
theorem csum_add {a b c d x y : Nat} (h1 : Ieee.double.add a c = some x) (h2 : Ieee.double.add b d = some y) : cSumBits .add .f64 a b c d = some (x, y) := by
  have e1 : floatBits .add .f64 a c = some x := h1
  have e2 : floatBits .add .f64 b d = some y := h2
  unfold cSumBits
  rw [e1, e2]; rfl
theorem csum_sub {a b c d x y : Nat} (h1 : Ieee.double.sub a c = some x) (h2 : Ieee.double.sub b d = some y) : cSumBits .sub .f64 a b c d = some (x, y) := by
  have e1 : floatBits .sub .f64 a c = some x := h1
  have e2 : floatBits .sub .f64 b d = some y := h2
  unfold cSumBits
  rw [e1, e2]; rfl
/-- The law's 'size' of a finite complex number. -/
theorem size_ok {a b : Nat} {x y : Int} (ka : Key a x) (kb : Key b y) (hx : (x.natAbs : Int) ≤ hMax) (hy : (y.natAbs : Int) ≤ hMax) :
    ∃ h s, Key h s ∧ 0 ≤ s ∧ s < INF ∧ (∀ H, (Vk s + 1) * 4503599627370503 ≤ H * 4503599627370496 → Vk x * Vk x + Vk y * Vk y ≤ H * H) ∧ Vk s * 4503599627370496 ≤ 2 * (((Vk x).natAbs : Int) + ((Vk y).natAbs : Int)) * 4503599627370497 + 4503599627370496
      ∧ ∀ w, Calls Try.prog 74 #[.complex .f64 a b] w fun e w' => e = .returned (.float .f64 h) ∧ Below w.heap.size w w' := by
  have hb := hMax_bd
  have hI := INF_pos
  have fx : Fin x := by unfold Fin; omega
  have fy : Fin y := by unfold Fin; omega
  have va : ∀ z : Int, Vk (z.natAbs : Int) = ((Vk z).natAbs : Int) := fun z => by
    rcases Int.le_total 0 z with g | g
    · have := Vk_nn g
      rw [show (z.natAbs : Int) = z by omega]; omega
    · have := Vk_le.2 g
      rw [Vk_zero] at this
      rw [show (z.natAbs : Int) = -z by omega, Vk_neg]; omega
  have sq : ∀ z : Int, ((Vk z).natAbs : Int) * ((Vk z).natAbs : Int) = Vk z * Vk z := fun z => by
    rcases Int.le_total 0 (Vk z) with g | g
    · rw [show ((Vk z).natAbs : Int) = Vk z by omega]
    · rw [show ((Vk z).natAbs : Int) = -Vk z by omega, Int.neg_mul_neg]
  obtain ⟨h, s, ks, ok, c⟩ := hypot_key ka kb fx fy
  refine ⟨h, s, ks, ?_⟩
  rcases ok with ⟨rfl, rfl, rfl⟩ | ok
  · refine ⟨by omega, by omega, fun H hH => ?_, ?_, size_w a b h c⟩
    · rw [Vk_zero]; have := mul_self_nn H; omega
    · rw [Vk_zero]; omega
  · have f := ok.fin (by omega)
    refine ⟨f.1, f.2, fun H hH => ?_, ?_, size_w a b h c⟩
    · have q := ok.lo f.2 hH
      rcases Int.le_total (x.natAbs : Int) y.natAbs with g | g
      · rw [show max (x.natAbs : Int) y.natAbs = y.natAbs by omega, show min (x.natAbs : Int) y.natAbs = x.natAbs by omega, va, va, sq, sq] at q
        omega
      · rw [show max (x.natAbs : Int) y.natAbs = x.natAbs by omega, show min (x.natAbs : Int) y.natAbs = y.natAbs by omega, va, va, sq, sq] at q
        omega
    · have q := ok.hi (by omega)
      rcases Int.le_total (x.natAbs : Int) y.natAbs with g | g
      · rw [show max (x.natAbs : Int) y.natAbs = y.natAbs by omega, va] at q
        omega
      · rw [show max (x.natAbs : Int) y.natAbs = x.natAbs by omega, va] at q
        omega
theorem VV_T8 : (VV : Int) * 1073741824 ≤ (T8 : Int) := by
  have k : VV * 2 ^ 30 ≤ T8 := by
    unfold VV T8
    rw [← Nat.pow_add]
    exact Nat.pow_le_pow_right (by decide) (by have := EE_eq; have := HE_eq; omega)
  have e : (2 : Nat) ^ 30 = 1073741824 := by decide
  rw [e] at k
  have := Int.ofNat_le.2 k
  rw [Int.natCast_mul] at this
  exact this
end Go.Proofs.Ytacnclofbnafiaa

namespace Go.Proofs.Ytacnclofbnafiaa
open Go.RowKit Fl

/-- A whole number not below the size of a middle, and hardly above Hypot's. -/
theorem up_H (s : Int) (h : 0 ≤ s) : ∃ H, 0 ≤ H ∧ (s + 1) * 4503599627370503 ≤ H * 4503599627370496 ∧ H * 4503599627370496 ≤ (s + 1) * 4503599627370503 + 4503599627370496 := by
  refine ⟨((s + 1) * 4503599627370503) / 4503599627370496 + 1, by omega, by omega, by omega⟩
theorem sum_lin {τ t t2 E1 E2 ax ay ax2 ay2 Hx Hy p q ρ μ V T : Int} (hV : 1 ≤ V) (hT : V * 1073741824 ≤ T) (h1 : τ * 1125899906842624 ≤ (t + t2) * 1125899906842628 + 4 * (E1 + E2) + 1125899906842624 * (60 * V + 60))
    (e1 : E1 ≤ ax + ax2) (e2 : E2 ≤ ay + ay2) (a1 : ax ≤ Hx) (a2 : ay ≤ Hx) (a3 : ax2 ≤ Hy) (a4 : ay2 ≤ Hy) (b1 : Hx * 4503599627370496 ≤ (p + 1) * 4503599627370503 + 4503599627370496) (b2 : Hy * 4503599627370496 ≤ (q + 1) * 4503599627370503 + 4503599627370496)
    (c1 : (t + t2) * 4503599627370496 ≤ ρ * 1 * 4503599627370497 + 4503599627370496 * 1) (c2 : (p + q) * 4503599627370496 ≤ μ * 1 * 4503599627370497 + 4503599627370496 * 1) (ht : 0 ≤ t) (ht2 : 0 ≤ t2) (hp : 0 ≤ p) (hq : 0 ≤ q) :
    τ * 17592186044416 ≤ ρ * 17592186044432 + μ * 16 + 17592186044416 * T := by
  omega
theorem dev_lin {h G1 G2 dx dy E1 E2 ax ay ax2 ay2 Hx Hy p q μ T : Int} (hT : 1267650600228229401496703205376 ≤ T) (g1 : G1 * 4503599627370496 ≤ 2 * E1 + 3 * 4503599627370496) (g2 : G2 * 4503599627370496 ≤ 2 * E2 + 3 * 4503599627370496)
    (d1 : dx * 1 * 4503599627370496 ≤ G1 * 4503599627370497 + 4503599627370496 * 1) (d2 : dy * 1 * 4503599627370496 ≤ G2 * 4503599627370497 + 4503599627370496 * 1) (h1 : h * 4503599627370496 ≤ 2 * (dx + dy) * 4503599627370497 + 4503599627370496)
    (e1 : E1 ≤ ax + ax2) (e2 : E2 ≤ ay + ay2) (a1 : ax ≤ Hx) (a2 : ay ≤ Hx) (a3 : ax2 ≤ Hy) (a4 : ay2 ≤ Hy) (b1 : Hx * 4503599627370496 ≤ (p + 1) * 4503599627370503 + 4503599627370496) (b2 : Hy * 4503599627370496 ≤ (q + 1) * 4503599627370503 + 4503599627370496)
    (c2 : (p + q) * 4503599627370496 ≤ μ * 1 * 4503599627370497 + 4503599627370496 * 1) (hp : 0 ≤ p) (hq : 0 ≤ q) :
    h * 17592186044416 ≤ 0 * 17592186044432 + μ * 16 + 17592186044416 * T := by
  omega
theorem nab (a b : Int) : ((a + b).natAbs : Int) ≤ (a.natAbs : Int) + (b.natAbs : Int) := by omega
theorem nab_le {a b B : Int} (h1 : a ≤ B) (h2 : -B ≤ a) (hB : B ≤ b) : (a.natAbs : Int) ≤ b := by omega
theorem gap_up {d n g : Int} (h : d * 1 * 4503599627370496 ≤ n * 4503599627370497 + 4503599627370496 * 1) (k : n ≤ g) : d * 1 * 4503599627370496 ≤ g * 4503599627370497 + 4503599627370496 * 1 := by omega
-- sums (and differences) are near enough
set_option maxHeartbeats 4000000 in
theorem close_sum {F : Ops} {x y t x2 y2 t2 u v c : Int} (fx : Fin x) (fy : Fin y) (fx2 : Fin x2) (fy2 : Fin y2) (t0 : 0 ≤ t) (t1 : t ≤ pw2 300) (s0 : 0 ≤ t2) (s1 : t2 ≤ pw2 300) (hx : (x.natAbs : Int) ≤ pw2 300) (hy : (y.natAbs : Int) ≤ pw2 300) (hx2 : (x2.natAbs : Int) ≤ pw2 300) (hy2 : (y2.natAbs : Int) ≤ pw2 300)
    (h : Ard F (F.aD x x2) (F.aU x x2) (F.aD y y2) (F.aU y y2) u v c) (ht : F.aU c (F.aU t t2) < INF) {ax ay r1 m1 : Nat} {αx αy ρ μ p q Hx Hy : Int} (kax : Key ax αx) (nax : Nr (Vk x + Vk x2) 1 αx) (kay : Key ay αy) (nay : Nr (Vk y + Vk y2) 1 αy) (kr : Key r1 ρ) (nr : Nr (Vk t + Vk t2) 1 ρ) (km : Key m1 μ) (nm : Nr (p + q) 1 μ)
    (p0 : 0 ≤ p) (q0 : 0 ≤ q) (p1 : p + q ≤ Vk (pw2 700)) (a1 : ((Vk x).natAbs : Int) ≤ Hx) (a2 : ((Vk y).natAbs : Int) ≤ Hx) (a3 : ((Vk x2).natAbs : Int) ≤ Hy) (a4 : ((Vk y2).natAbs : Int) ≤ Hy) (b1 : Hx * 4503599627370496 ≤ (p + 1) * 4503599627370503 + 4503599627370496) (b2 : Hy * 4503599627370496 ≤ (q + 1) * 4503599627370503 + 4503599627370496) :
    ∀ w, Calls Try.prog 75 #[.agg #[.complex .f64 (B u) (B v), .float .f64 (B (F.aU c (F.aU t t2)))], .complex .f64 ax ay, .float .f64 r1, .float .f64 m1] w fun e w' => e = .returned (.bool true) ∧ Below w.heap.size w w' := by
  have hI := INF_pos
  have w300 := pw2_bd 300 (by omega)
  have w301 := pw2_bd 301 (by omega)
  have w700 := pw2_bd 700 (by omega)
  have w800 := pw2_mono (show 700 ≤ 800 by omega)
  have w800' := pw2_mono (show 301 ≤ 800 by omega)
  have e301 : pw2 (300 + 1) = pw2 301 := rfl
  have d301 : Vk (pw2 301) = 2 * Vk (pw2 300) := Vk_pw2_succ 300
  obtain ⟨i1, i2, i3, i4, i5⟩ := F.a_within fx fx2 hx hx2 (by omega)
  obtain ⟨j1, j2, j3, j4, j5⟩ := F.a_within fy fy2 hy hy2 (by omega)
  rw [e301] at i1 i3 j1 j3
  clear hx hy hx2 hy2
  have E1' := nab (Vk x) (Vk x2)
  have E2' := nab (Vk y) (Vk y2)
  have t1' : t < INF := by clear a1 a2 a3 a4 E1' E2'; omega
  have s1' : t2 < INF := by clear a1 a2 a3 a4 E1' E2'; omega
  obtain ⟨k1, k2, k3, k4, g1, g2, T⟩ := add_tight fx fy fx2 fy2 t0 t1' s0 s1' h ht (by clear a1 a2 a3 a4 E1' E2'; omega) (by clear a1 a2 a3 a4 E1' E2'; omega) (by clear a1 a2 a3 a4 E1' E2'; omega) (by clear a1 a2 a3 a4 E1' E2'; omega)
  obtain ⟨o0, o1, o2⟩ := rk_gap ((F.add fx.pl fx2.pl).num fx.1 fx.2 fx2.1 fx2.2) h.fk h.fl
  obtain ⟨o0', o3, o4⟩ := rk_gap ((F.add fy.pl fy2.pl).num fy.1 fy.2 fy2.1 fy2.2) h.fm h.fn
  clear o0 o0'
  generalize ((Vk x + Vk x2).natAbs : Int) = E1 at *
  generalize ((Vk y + Vk y2).natAbs : Int) = E2 at *
  generalize ((Vk x).natAbs : Int) = Ax at *
  generalize ((Vk y).natAbs : Int) = Ay at *
  generalize ((Vk x2).natAbs : Int) = Ax2 at *
  generalize ((Vk y2).natAbs : Int) = Ay2 at *
  have ft := Fin.of t0 t1'
  have ft2 := Fin.of s0 s1'
  have zτ := (h.rad (F.add_pl ft.pl ft2.pl).2 (F.aU_nn ft.pl ft2.pl t0 s0) ht).2.2.2.2.2
  have vt := Vk_nn t0
  have vt2 := Vk_nn s0
  have vt' := Vk_le.2 t1
  have vt2' := Vk_le.2 s1
  have ρ0 := nr.nn (by omega)
  have ρ1 : ρ ≤ pw2 301 := nr.fin _ (by omega) (by omega) (by omega)
  have μ0 := nm.nn (by omega)
  have μ1 : μ ≤ pw2 700 := nm.fin _ (by omega) (by omega) (by omega)
  have cr := nr.lo (by omega) (by omega) (by omega)
  have cm := nm.lo (by omega) (by omega) (by omega)
  have V1 := VV_pos
  have L := sum_lin (V := (VV : Int)) (T := (T8 : Int)) (by omega) VV_T8 T E1' E2' a1 a2 a3 a4 b1 b2 cr cm vt vt2 p0 q0
  have B1 := bound_ok (Key.at (Fin.of zτ ht).pl) kr km ρ0 (by omega) μ0 (by omega) L
  -- the middle
  have n1 : F.aD x x2 ≤ αx := (nax _ (by omega) (by omega)).1 (by omega)
  have n2 : αx ≤ F.aU x x2 := (nax _ (by omega) (by omega)).2 (by omega)
  have n3 : F.aD y y2 ≤ αy := (nay _ (by omega) (by omega)).1 (by omega)
  have n4 : αy ≤ F.aU y y2 := (nay _ (by omega) (by omega)).2 (by omega)
  have fax : Fin αx := by unfold Fin; omega
  have fay : Fin αy := by unfold Fin; omega
  obtain ⟨dx, δx, ex, kdx, ndx⟩ := own_sub (Key.at h.fu.pl) kax h.fu fax
  obtain ⟨dy, δy, ey, kdy, ndy⟩ := own_sub (Key.at h.fv.pl) kay h.fv fay
  have u1 := Vk_le.2 k1
  have u2 := Vk_le.2 k2
  have u3 := Vk_le.2 k3
  have u4 := Vk_le.2 k4
  have u5 := Vk_le.2 n1
  have u6 := Vk_le.2 n2
  have u7 := Vk_le.2 n3
  have u8 := Vk_le.2 n4
  have bdx := kdx.bd
  have bdy := kdy.bd
  have v1 := Vk_le.2 i1
  have v2 := Vk_le.2 i3
  have v3 := Vk_le.2 j1
  have v4 := Vk_le.2 j3
  rw [Vk_neg] at v1 v3
  have w302 := pw2_bd 302 (by omega)
  have d302 : Vk (pw2 302) = 2 * Vk (pw2 301) := Vk_pw2_succ 301
  have y1 := ndx.fin (pw2 302) (by omega) (by omega) (by omega)
  have y2' := ndx.neg.fin (pw2 302) (by omega) (by omega) (by omega)
  have y3 := ndy.fin (pw2 302) (by omega) (by omega) (by omega)
  have y4 := ndy.neg.fin (pw2 302) (by omega) (by omega) (by omega)
  have fδx : (δx.natAbs : Int) ≤ hMax := nab_le y1 (by omega) w302.2.2
  have fδy : (δy.natAbs : Int) ≤ hMax := nab_le y3 (by omega) w302.2.2
  have gx : ((Vk u - Vk αx).natAbs : Int) ≤ Vk (F.aU x x2) - Vk (F.aD x x2) := nab_le (B := Vk (F.aU x x2) - Vk (F.aD x x2)) (by omega) (by omega) (Int.le_refl _)
  have gy : ((Vk v - Vk αy).natAbs : Int) ≤ Vk (F.aU y y2) - Vk (F.aD y y2) := nab_le (B := Vk (F.aU y y2) - Vk (F.aD y y2)) (by clear gx; omega) (by clear gx; omega) (Int.le_refl _)
  have x1 := ndx.abs (by omega) bdx.1 bdx.2
  have x2' := ndy.abs (by omega) bdy.1 bdy.2
  obtain ⟨hw, σ, kh, h0, h1, _, hh, ch⟩ := size_ok kdx kdy fδx fδy
  have L2 := dev_lin (T := (T8 : Int)) T8_big g1 g2 (gap_up x1 gx) (gap_up x2' gy) hh E1' E2' a1 a2 a3 a4 b1 b2 cm p0 q0
  have B2 := bound_ok kh Key.zero km (Int.le_refl _) (Int.le_of_lt (pw2_bd 800 (by decide)).1) μ0 (Int.le_trans μ1 w800) (by rw [Vk_zero]; exact L2)
  exact close_w _ _ _ ax ay r1 m1 dx dy hw B1 (csum_sub ex ey) ch B2
end Go.Proofs.Ytacnclofbnafiaa

namespace Go.Proofs.Ytacnclofbnafiaa
open Go.RowKit Fl

theorem rad_lin {τ c T w a1 a2 a3 U q1 q2 P1 P2 P3 t t2 XY W : Int} (hU : 0 ≤ U) (hW : 0 ≤ W) (ht : 0 ≤ t) (ht2 : 0 ≤ t2) (hP1 : 0 ≤ P1) (hP2 : 0 ≤ P2) (hP3 : 0 ≤ P3) (hXY : 0 ≤ XY)
    (h1 : a1 * 4503599627370496 ≤ q1 * 4503599627370497 + 4503599627370496 * U) (h1' : q1 * 4503599627370496 ≤ P1 * 4503599627370503 + 2 * 4503599627370496 * t2) (h2 : a2 * 4503599627370496 ≤ q2 * 4503599627370497 + 4503599627370496 * U) (h2' : q2 * 4503599627370496 ≤ P2 * 4503599627370503 + 2 * 4503599627370496 * t)
    (h3 : a3 * 4503599627370496 ≤ P3 * 4503599627370497 + 4503599627370496 * U) (h4 : w * 4503599627370496 ≤ (a1 + a2) * 4503599627370497 + 4503599627370496 * U) (h5 : T * 4503599627370496 ≤ (w + a3) * 4503599627370497 + 4503599627370496 * U) (h6 : τ * 4503599627370496 ≤ (c + T) * 4503599627370497 + 4503599627370496 * U)
    (h7 : c * 4503599627370496 ≤ 16 * XY + 4503599627370496 * W) :
    τ * 281474976710656 ≤ (P1 + P2 + P3) * 281474976710660 + 2 * XY + 281474976710656 * (2 * W + 8 * (t + t2) + 20 * U) := by
  omega
/-- .. and against what the law reckons: r of three products, m of the sizes' product. -/
theorem prod_lin {τ U P1 P2 P3 t t2 XY W p q pt qt pq r2 r3 r4 r5 r6 μ T : Int} (hU : 0 ≤ U) (hW : 0 ≤ W) (ht : 0 ≤ t) (ht2 : 0 ≤ t2) (hp : 0 ≤ p) (hq : 0 ≤ q) (hpt : 0 ≤ pt) (hqt : 0 ≤ qt) (hpq : 0 ≤ pq) (hP3 : 0 ≤ P3)
    (h : τ * 281474976710656 ≤ (P1 + P2 + P3) * 281474976710660 + 2 * XY + 281474976710656 * (2 * W + 8 * (t + t2) + 20 * U))
    (e1 : P1 * 4503599627370496 ≤ (pt + t2) * 4503599627370503 + 4503599627370496 * t2) (e2 : P2 * 4503599627370496 ≤ (qt + t) * 4503599627370503 + 4503599627370496 * t) (e3 : XY ≤ 16 * (pq + p + q + U))
    (c2 : pt * 4503599627370496 ≤ r2 * 4503599627370497 + 4503599627370496 * U) (c3 : qt * 4503599627370496 ≤ r3 * 4503599627370497 + 4503599627370496 * U) (c4 : (r2 + r3) * 4503599627370496 ≤ r4 * 4503599627370497 + 4503599627370496 * U) (c5 : P3 * 4503599627370496 ≤ r5 * 4503599627370497 + 4503599627370496 * U)
    (c6 : (r4 + r5) * 4503599627370496 ≤ r6 * 4503599627370497 + 4503599627370496 * U) (c7 : pq * 4503599627370496 ≤ μ * 4503599627370497 + 4503599627370496 * U) (hT : 4 * W + 64 * (t + t2 + p + q) + 1000 * U ≤ T) :
    τ * 17592186044416 ≤ r6 * 17592186044432 + μ * 16 + 17592186044416 * T := by
  omega
theorem side_up {F : Ops} {x y q t H : Int} (fx : Fin x) (fy : Fin y) (l : LenOk F x y q) (t0 : 0 ≤ t) (t1 : t < INF) (hH : 0 ≤ H) (hab : Vk x * Vk x + Vk y * Vk y ≤ H * H) (h : F.mU q t < INF) :
    ∃ z, Vk (F.mU q t) * (U : Int) * 4503599627370496 ≤ z * 4503599627370497 + 4503599627370496 * (U : Int) ∧ z * 4503599627370496 ≤ H * Vk t * 4503599627370503 + 2 * 4503599627370496 * Vk t := by
  have hU := U_posI
  have hI := INF_pos
  obtain ⟨pq, q0, _⟩ := l.ge fx.pl fy.pl
  have ft := Fin.of t0 t1
  have vt := Vk_nn t0
  obtain ⟨m, _, _⟩ := F.mU_size pq ft.pl q0 t0 h
  by_cases c : q < INF
  · have k := (F.mU_tight (Fin.of q0 c) ft (nn_mul (Vk_nn q0) vt) h).2
    have l2 := mul_mono_r (l.tight2 fx fy c hH hab) vt
    refine ⟨Vk q * Vk t, k, ?_⟩
    have e1 : Vk q * 4503599627370496 * Vk t = Vk q * Vk t * 4503599627370496 := by grind
    have e2 : (H * 4503599627370503 + 2 * 4503599627370496) * Vk t = H * Vk t * 4503599627370503 + 2 * 4503599627370496 * Vk t := by grind
    rw [e1, e2] at l2
    exact l2
  · have z : t = 0 := by omega
    subst z
    have e := ((F.mul pq pl_zero).zero (.inr rfl)).2
    refine ⟨0, ?_, ?_⟩
    · rw [e, Vk_zero]; omega
    · rw [Vk_zero, Int.mul_zero]; omega
theorem mul_rad {F : Ops} {x y t x2 y2 t2 q1 q2 c H1 H2 XY W : Int} (fx : Fin x) (fy : Fin y) (fx2 : Fin x2) (fy2 : Fin y2) (t0 : 0 ≤ t) (t1 : t < INF) (s0 : 0 ≤ t2) (s1 : t2 < INF) (l1 : LenOk F x y q1) (l2 : LenOk F x2 y2 q2) (hH1 : 0 ≤ H1) (hH2 : 0 ≤ H2)
    (ab1 : Vk x * Vk x + Vk y * Vk y ≤ H1 * H1) (ab2 : Vk x2 * Vk x2 + Vk y2 * Vk y2 ≤ H2 * H2) (hW : 0 ≤ W) (hXY : 0 ≤ XY) (hT : F.aU (F.aU (F.mU q1 t2) (F.mU q2 t)) (F.mU t t2) < INF)
    (hc : Vk c * (U : Int) * 4503599627370496 ≤ 16 * XY + 4503599627370496 * W) (hτ : Vk (F.aU c (F.aU (F.aU (F.mU q1 t2) (F.mU q2 t)) (F.mU t t2))) * 4503599627370496 ≤ (Vk c + Vk (F.aU (F.aU (F.mU q1 t2) (F.mU q2 t)) (F.mU t t2))) * 4503599627370497 + 4503599627370496) :
    Vk (F.aU c (F.aU (F.aU (F.mU q1 t2) (F.mU q2 t)) (F.mU t t2))) * (U : Int) * 281474976710656 ≤ (H1 * Vk t2 + H2 * Vk t + Vk t * Vk t2) * 281474976710660 + 2 * XY + 281474976710656 * (2 * W + 8 * (Vk t + Vk t2) + 20 * (U : Int)) := by
  have hU := U_posI
  have hI := INF_pos
  have ft := Fin.of t0 t1
  have ft2 := Fin.of s0 s1
  have vt := Vk_nn t0
  have vt2 := Vk_nn s0
  obtain ⟨pq1, q10, _⟩ := l1.ge fx.pl fy.pl
  obtain ⟨pq2, q20, _⟩ := l2.ge fx2.pl fy2.pl
  have pm1 := (F.mul_pl pq1 ft2.pl).2
  have pm2 := (F.mul_pl pq2 ft.pl).2
  have pm3 := (F.mul_pl ft.pl ft2.pl).2
  have z1 := (F.mul_pos pq1 ft2.pl q10 s0).2
  have z2 := (F.mul_pos pq2 ft.pl q20 t0).2
  have z3 := (F.mul_pos ft.pl ft2.pl t0 s0).2
  have pa := (F.add_pl pm1 pm2).2
  have z4 := F.aU_nn pm1 pm2 z1 z2
  obtain ⟨r2, r3, _, _⟩ := F.aU_fin pa pm3 (by omega) (by omega) hT
  obtain ⟨r4, r5, _, _⟩ := F.aU_fin pm1 pm2 (by omega) (by omega) r2
  obtain ⟨y1, h1, h1'⟩ := side_up fx fy l1 s0 s1 hH1 ab1 r4
  obtain ⟨y3, h2, h2'⟩ := side_up fx2 fy2 l2 t0 t1 hH2 ab2 r5
  have h3 := (F.mU_tight ft ft2 (nn_mul vt vt2) r3).2
  have h4 := mul_mono_r (F.aU_tight (Fin.of z1 r4) (Fin.of z2 r5) (by have := Vk_nn z1; have := Vk_nn z2; omega) r2).2 (Int.le_of_lt hU)
  have h5 := mul_mono_r (F.aU_tight (Fin.of z4 r2) (Fin.of z3 r3) (by have := Vk_nn z4; have := Vk_nn z3; omega) hT).2 (Int.le_of_lt hU)
  have h6 := mul_mono_r hτ (Int.le_of_lt hU)
  have e : ∀ a b d : Int, (a + b) * 4503599627370497 * d = (a * d + b * d) * 4503599627370497 := fun a b d => by grind
  have e' : ∀ a d : Int, a * 4503599627370496 * d = a * d * 4503599627370496 := fun a d => by grind
  rw [Int.add_mul, e, e'] at h4 h5 h6
  exact rad_lin (Int.le_of_lt hU) hW vt vt2 (nn_mul hH1 vt2) (nn_mul hH2 vt) (nn_mul vt vt2) hXY h1 h1' h2 h2' h3 h4 h5 h6 hc
end Go.Proofs.Ytacnclofbnafiaa

namespace Go.Proofs.Ytacnclofbnafiaa
open Go.RowKit Fl

/-- How far Go's own answer is from what is exact, whatever its sign. -/
theorem Nr.err {E D s : Int} (h : Nr E D s) (hD : 0 < D) (h1 : -(INF : Int) < s) (h2 : s < INF) : (Vk s * D - E) * 4503599627370496 ≤ 2 * (E.natAbs : Int) + 3 * 4503599627370496 * D ∧ (E - Vk s * D) * 4503599627370496 ≤ 2 * (E.natAbs : Int) + 3 * 4503599627370496 * D := by
  rcases Int.le_total 0 E with g | g
  · have a := h.hi hD g (Int.le_of_lt h2)
    have b := h.lo hD g h2
    have v := nn_mul (Vk_nn (h.nn g)) (Int.le_of_lt hD)
    rw [show (E.natAbs : Int) = E by omega]
    have e : 3 * 4503599627370496 * D = 3 * (4503599627370496 * D) := by grind
    omega
  · have n := h.neg
    have a := n.hi hD (by omega) (by omega)
    have b := n.lo hD (by omega) (by omega)
    have v := nn_mul (Vk_nn (n.nn (by omega))) (Int.le_of_lt hD)
    simp only [Vk_neg, Int.neg_mul] at a b v
    rw [show (E.natAbs : Int) = -E by omega]
    have e : 3 * 4503599627370496 * D = 3 * (4503599627370496 * D) := by grind
    omega
/-- One part of the float product of two middles, beside the middle of the disc: all times U. u, a: the two; k, l: the box; s1, s2: the float products; X, Y: exact, X + Y. -/
theorem off_lin {u a k l s1 s2 X Y AX AY U : Int} (hU : 0 ≤ U) (hk : k ≤ u) (hl : u ≤ l) (k1 : k ≤ X + Y) (l1 : X + Y ≤ l) (gap : (l - k) * 4503599627370496 ≤ 12 * (AX + AY) + 20 * 4503599627370496 * U) (x1 : X ≤ AX) (x2 : -AX ≤ X) (y1 : Y ≤ AY) (y2 : -AY ≤ Y)
    (e1 : (s1 - X) * 4503599627370496 ≤ 2 * AX + 3 * 4503599627370496 * U) (e1' : (X - s1) * 4503599627370496 ≤ 2 * AX + 3 * 4503599627370496 * U) (e2 : (s2 - Y) * 4503599627370496 ≤ 2 * AY + 3 * 4503599627370496 * U) (e2' : (Y - s2) * 4503599627370496 ≤ 2 * AY + 3 * 4503599627370496 * U)
    {Z : Int} (z1 : s1 + s2 ≤ Z) (z2 : -(s1 + s2) ≤ Z) (z3 : Z = s1 + s2 ∨ Z = -(s1 + s2)) (e3 : (a - (s1 + s2)) * 4503599627370496 ≤ 2 * Z + 3 * 4503599627370496 * U) (e3' : ((s1 + s2) - a) * 4503599627370496 ≤ 2 * Z + 3 * 4503599627370496 * U) :
    (u - a) * 4503599627370496 ≤ 20 * (AX + AY) + 60 * 4503599627370496 * U ∧ (a - u) * 4503599627370496 ≤ 20 * (AX + AY) + 60 * 4503599627370496 * U := by
  rcases z3 with z | z <;> subst z <;> constructor <;> omega
end Go.Proofs.Ytacnclofbnafiaa

namespace Go.Proofs.Ytacnclofbnafiaa
open Go.RowKit Fl

theorem cmul_bits {a b c d ac bd re ad bc im : Nat} (h1 : Ieee.double.mul a c = some ac) (h2 : Ieee.double.mul b d = some bd) (h3 : Ieee.double.sub ac bd = some re) (h4 : Ieee.double.mul a d = some ad) (h5 : Ieee.double.mul b c = some bc) (h6 : Ieee.double.add ad bc = some im) :
    cMulBits a b c d = some (re, im) := by
  have e1 : floatBits .mul .f64 a c = some ac := h1
  have e2 : floatBits .mul .f64 b d = some bd := h2
  have e3 : floatBits .sub .f64 ac bd = some re := h3
  have e4 : floatBits .mul .f64 a d = some ad := h4
  have e5 : floatBits .mul .f64 b c = some bc := h5
  have e6 : floatBits .add .f64 ad bc = some im := h6
  unfold cMulBits
  rw [e1]; dsimp only [Option.bind]; rw [e2]; dsimp only [Option.bind]; rw [e3]; dsimp only [Option.bind]; rw [e4]; dsimp only [Option.bind]; rw [e5]; dsimp only [Option.bind]; rw [e6]
/-- What two words' own product comes to: near, and not too great. -/
theorem own_mul_le {x y : Nat} {k l : Int} (e g : Nat) (hs : e + g ≤ 900) (hx : Key x k) (hy : Key y l) (k0 : 0 ≤ k) (l0 : 0 ≤ l) (k1 : k ≤ pw2 e) (l1 : l ≤ pw2 g) :
    ∃ s σ, Ieee.double.mul x y = some s ∧ Key s σ ∧ 0 ≤ σ ∧ σ ≤ pw2 (e + g) ∧ Vk k * Vk l * 4503599627370496 ≤ Vk σ * (U : Int) * 4503599627370497 + 4503599627370496 * (U : Int) := by
  have hU := U_posI
  have hI := INF_pos
  have p := pw2_bd (e + g) (by omega)
  have p1 := pw2_bd e (by omega)
  have p2 := pw2_bd g (by omega)
  obtain ⟨s, σ, m, ks, n⟩ := own_mul hx hy (Fin.of k0 (by omega)) (Fin.of l0 (by omega))
  have vk := Vk_nn k0
  have vl := Vk_nn l0
  have nn := nn_mul vk vl
  have up : Vk k * Vk l ≤ Vk (pw2 (e + g)) * (U : Int) := by
    rw [← Vk_pw2_mul]
    exact Int.mul_le_mul (Vk_le.2 k1) (Vk_le.2 l1) vl (Int.le_trans vk (Vk_le.2 k1))
  have a := n.fin (pw2 (e + g)) (by omega) (by omega) up
  exact ⟨s, σ, m, ks, n.nn nn, a, n.lo hU nn (by omega)⟩
theorem tUs {k l s U : Int} (hU : 0 ≤ U) (h : (k + l) * 4503599627370496 ≤ s * 1 * 4503599627370497 + 4503599627370496 * 1) : (k * U + l * U) * 4503599627370496 ≤ s * U * 4503599627370497 + 4503599627370496 * U := by
  have m := mul_mono_r h hU
  have e1 : (k + l) * 4503599627370496 * U = (k * U + l * U) * 4503599627370496 := by grind
  have e2 : (s * 1 * 4503599627370497 + 4503599627370496 * 1) * U = s * U * 4503599627370497 + 4503599627370496 * U := by grind
  rw [e1, e2] at m; exact m
/-- .. and their own sum. -/
theorem own_add_le {x y : Nat} {k l : Int} (e : Nat) (hs : e ≤ 900) (hx : Key x k) (hy : Key y l) (k0 : 0 ≤ k) (l0 : 0 ≤ l) (k1 : k ≤ pw2 e) (l1 : l ≤ pw2 e) :
    ∃ s σ, Ieee.double.add x y = some s ∧ Key s σ ∧ 0 ≤ σ ∧ σ ≤ pw2 (e + 1) ∧ (Vk k * (U : Int) + Vk l * (U : Int)) * 4503599627370496 ≤ Vk σ * (U : Int) * 4503599627370497 + 4503599627370496 * (U : Int) := by
  have hU := U_posI
  have hI := INF_pos
  have p := pw2_bd (e + 1) (by omega)
  have p1 := pw2_bd e (by omega)
  obtain ⟨s, σ, m, ks, n⟩ := own_add hx hy (by omega) (by omega) (by omega) (by omega)
  have vk := Vk_nn k0
  have vl := Vk_nn l0
  have d := Vk_pw2_succ e
  have i1 := Vk_le.2 k1
  have i2 := Vk_le.2 l1
  generalize pw2 (e + 1) = j at *
  have a := n.fin j (by omega) (by omega) (by omega)
  exact ⟨s, σ, m, ks, n.nn (by omega), a, tUs (Int.le_of_lt hU) (n.lo (by omega) (by omega) (by omega))⟩
theorem H_le {H p : Int} (p0 : 0 ≤ p) (b : H * 4503599627370496 ≤ (p + 1) * 4503599627370503 + 4503599627370496) : H ≤ 2 * (p + 1) := by omega
theorem H_mul {H p t : Int} (t0 : 0 ≤ t) (b : H * 4503599627370496 ≤ (p + 1) * 4503599627370503 + 4503599627370496) : H * t * 4503599627370496 ≤ (p * t + t) * 4503599627370503 + 4503599627370496 * t := by
  have m := mul_mono_r b t0
  have e1 : H * 4503599627370496 * t = H * t * 4503599627370496 := by grind
  have e2 : ((p + 1) * 4503599627370503 + 4503599627370496) * t = (p * t + t) * 4503599627370503 + 4503599627370496 * t := by grind
  rw [e1, e2] at m
  exact m
theorem abs_le_H {a b H : Int} (hH : 0 ≤ H) (h : a * a + b * b ≤ H * H) : (a.natAbs : Int) ≤ H ∧ (b.natAbs : Int) ≤ H := by
  have f : ∀ z : Int, z * z ≤ H * H → (z.natAbs : Int) ≤ H := fun z hz => by
    apply Classical.byContradiction
    intro c
    have c1 : H + 1 ≤ (z.natAbs : Int) := by omega
    have s : (z.natAbs : Int) * (z.natAbs : Int) = z * z := Int.natAbs_mul_self
    have m := Int.mul_le_mul c1 c1 (by omega) (by omega : (0 : Int) ≤ (z.natAbs : Int))
    have e : (H + 1) * (H + 1) = H * H + 2 * H + 1 := by grind
    omega
  have := mul_self_nn a
  have := mul_self_nn b
  exact ⟨f a (by omega), f b (by omega)⟩
theorem abs_mul_le {a b A B : Int} (h1 : (a.natAbs : Int) ≤ A) (h2 : (b.natAbs : Int) ≤ B) : ((a * b).natAbs : Int) ≤ A * B := by
  rw [Int.natAbs_mul, Int.natCast_mul]
  exact Int.mul_le_mul h1 h2 (by omega) (by omega)
/-- The room: what is added by the steps is small beside the room that the law gives. -/
theorem room : 4 * ((40 * (VV : Int) + 100) * (U : Int)) + 64 * (8 * Vk (pw2 303)) + 1000 * (U : Int) ≤ (T8 : Int) * (U : Int) := by
  have hU := U_posI
  have a := mul_mono_r VV_T8 (Int.le_of_lt hU)
  have b := mul_mono_r T8_big (Int.le_of_lt hU)
  have c : 512 * Vk (pw2 303) * 4 ≤ (T8 : Int) * (U : Int) := by
    obtain ⟨g, hg⟩ : ∃ g : Nat, g = 303 := ⟨_, rfl⟩
    rw [← hg]
    have e : Vk (pw2 g) = ((2 ^ g : Nat) : Int) * (U : Int) := by
      rw [Vk_pw2, Nat.pow_add, Int.natCast_mul]; rfl
    have k : (512 * 4 * ((2 ^ g : Nat) : Int)) ≤ (T8 : Int) := by
      have k : 512 * 4 * 2 ^ g ≤ T8 := by
        unfold T8
        have h : (512 * 4 : Nat) = 2 ^ 11 := by decide
        rw [h, ← Nat.pow_add]
        exact Nat.pow_le_pow_right (by decide) (by have := EE_eq; omega)
      have := Int.ofNat_le.2 k
      rw [Int.natCast_mul] at this
      exact this
    have m := mul_mono_r k (Int.le_of_lt hU)
    rw [e]
    clear hg
    generalize ((2 ^ g : Nat) : Int) = Y at *
    have : 512 * (Y * (U : Int)) * 4 = 512 * 4 * Y * (U : Int) := by grind
    omega
  have e1 : 4 * ((40 * (VV : Int) + 100) * (U : Int)) = 160 * ((VV : Int) * (U : Int)) + 400 * (U : Int) := by grind
  have e2 : (VV : Int) * 1073741824 * (U : Int) = (VV : Int) * (U : Int) * 1073741824 := by grind
  rw [e2] at a
  rw [e1]
  generalize (VV : Int) * (U : Int) = Y1 at *
  generalize (T8 : Int) * (U : Int) = Y2 at *
  have v : 0 ≤ Vk (pw2 303) := Vk_nn (by have := pw2_bd 303 (by omega); omega)
  generalize Vk (pw2 303) = Y3 at *
  omega
/-- The middles' distance, against the law's room: all times U. -/
theorem dev2_lin {h dx dy gx gy XY U p q pq μ T : Int} (hU : 1 ≤ U) (_hpq : 0 ≤ pq) (hp : 0 ≤ p) (hq : 0 ≤ q)
    (h1 : h * 4503599627370496 ≤ 2 * (dx + dy) * 4503599627370497 + 4503599627370496 * U) (d1 : dx * 4503599627370496 ≤ gx * 4503599627370497 + 4503599627370496 * U) (d2 : dy * 4503599627370496 ≤ gy * 4503599627370497 + 4503599627370496 * U)
    {A1 A2 : Int} (g1 : gx * 4503599627370496 ≤ 20 * A1 + 60 * 4503599627370496 * U) (g2 : gy * 4503599627370496 ≤ 20 * A2 + 60 * 4503599627370496 * U) (eA : A1 + A2 = XY) (hA1 : 0 ≤ A1) (hA2 : 0 ≤ A2)
    (e3 : XY ≤ 16 * (pq + p + q + U)) (c7 : pq * 4503599627370496 ≤ μ * 4503599627370497 + 4503599627370496 * U) (hT : 64 * (p + q) + 1000 * U ≤ T) :
    h * 17592186044416 ≤ 0 * 17592186044432 + μ * 16 + 17592186044416 * T := by
  omega
end Go.Proofs.Ytacnclofbnafiaa

namespace Go.Proofs.Ytacnclofbnafiaa
open Go.RowKit Fl

/-- The own product of two modest words. -/
theorem own_mul_abs {x y : Nat} {k l : Int} (hx : Key x k) (hy : Key y l) (fk : Fin k) (fl : Fin l) (h1 : (k.natAbs : Int) ≤ pw2 300) (h2 : (l.natAbs : Int) ≤ pw2 300) :
    ∃ s σ, Ieee.double.mul x y = some s ∧ Key s σ ∧ Nr (Vk k * Vk l) (U : Int) σ ∧ σ ≤ pw2 600 ∧ -pw2 600 ≤ σ := by
  have p := pw2_bd 600 (by omega)
  have hI := INF_pos
  obtain ⟨s, σ, m, ks, n⟩ := own_mul hx hy fk fl
  have va := Vk_abs h1
  have vb := Vk_abs h2
  have mm := abs_mul va.1 va.2 vb.1 vb.2
  rw [Vk_pw2_mul, show 300 + 300 = 600 by rfl] at mm
  have a := n.fin (pw2 600) (by omega) (by omega) mm.1
  have b := n.neg.fin (pw2 600) (by omega) (by omega) (by omega)
  exact ⟨s, σ, m, ks, n, a, by omega⟩
theorem sum_bd {σ1 σ2 α : Int} (n : Nr (Vk σ1 + Vk σ2) 1 α) (a1 : σ1 ≤ pw2 600) (b1 : -pw2 600 ≤ σ1) (a2 : σ2 ≤ pw2 600) (b2 : -pw2 600 ≤ σ2) : α ≤ pw2 601 ∧ -pw2 601 ≤ α := by
  have p := pw2_bd 601 (by omega)
  have hI := INF_pos
  have d : Vk (pw2 601) = 2 * Vk (pw2 600) := Vk_pw2_succ 600
  have i1 := Vk_le.2 a1
  have i2 := Vk_le.2 a2
  have i3 := Vk_le.2 b1
  have i4 := Vk_le.2 b2
  rw [Vk_neg] at i3 i4
  have a := n.fin (pw2 601) (by omega) (by omega) (by omega)
  have b := n.neg.fin (pw2 601) (by omega) (by omega) (by omega)
  exact ⟨a, by omega⟩
/-- One part of the product, Go's own beside the disc's middle. -/
theorem part_off {u k l σ1 σ2 α X Y : Int} (k1 : k ≤ u) (l1 : u ≤ l) (kx : Vk k * (U : Int) ≤ X + Y) (lx : X + Y ≤ Vk l * (U : Int))
    (gap : (Vk l * (U : Int) - Vk k * (U : Int)) * 4503599627370496 ≤ 12 * ((X.natAbs : Int) + (Y.natAbs : Int)) + 20 * 4503599627370496 * (U : Int)) (n1 : Nr X (U : Int) σ1) (n2 : Nr Y (U : Int) σ2) (n3 : Nr (Vk σ1 + Vk σ2) 1 α)
    (f1 : Fin σ1) (f2 : Fin σ2) (f3 : Fin α) : ((Vk u - Vk α).natAbs : Int) * (U : Int) * 4503599627370496 ≤ 20 * ((X.natAbs : Int) + (Y.natAbs : Int)) + 60 * 4503599627370496 * (U : Int) := by
  have hU := U_posI
  have hU' := Int.le_of_lt hU
  obtain ⟨e1, e1'⟩ := n1.err hU f1.1 f1.2
  obtain ⟨e2, e2'⟩ := n2.err hU f2.1 f2.2
  obtain ⟨e3, e3'⟩ := n3.err (by decide) f3.1 f3.2
  replace e3 := mul_mono_r e3 hU'
  replace e3' := mul_mono_r e3' hU'
  have w1 := mul_mono_r (Vk_le.2 k1) hU'
  have w2 := mul_mono_r (Vk_le.2 l1) hU'
  have x1 : X ≤ (X.natAbs : Int) := by omega
  have x2 : -(X.natAbs : Int) ≤ X := by omega
  have y1 : Y ≤ (Y.natAbs : Int) := by omega
  have y2 : -(Y.natAbs : Int) ≤ Y := by omega
  generalize (X.natAbs : Int) = AX at *
  generalize (Y.natAbs : Int) = AY at *
  have z0 : ((Vk σ1 + Vk σ2).natAbs : Int) = Vk σ1 + Vk σ2 ∨ ((Vk σ1 + Vk σ2).natAbs : Int) = -(Vk σ1 + Vk σ2) := by omega
  have z1 : Vk σ1 + Vk σ2 ≤ ((Vk σ1 + Vk σ2).natAbs : Int) := by omega
  have z2 : -(Vk σ1 + Vk σ2) ≤ ((Vk σ1 + Vk σ2).natAbs : Int) := by omega
  generalize ((Vk σ1 + Vk σ2).natAbs : Int) = Z at *
  have c1 : (Vk α * 1 - (Vk σ1 + Vk σ2)) * 4503599627370496 * (U : Int) = (Vk α * (U : Int) - (Vk σ1 * (U : Int) + Vk σ2 * (U : Int))) * 4503599627370496 := by grind
  have c2 : (Vk σ1 + Vk σ2 - Vk α * 1) * 4503599627370496 * (U : Int) = ((Vk σ1 * (U : Int) + Vk σ2 * (U : Int)) - Vk α * (U : Int)) * 4503599627370496 := by grind
  have c3 : (2 * Z + 3 * 4503599627370496 * 1) * (U : Int) = 2 * (Z * (U : Int)) + 3 * 4503599627370496 * (U : Int) := by grind
  rw [c1, c3] at e3
  rw [c2, c3] at e3'
  have z1' := mul_mono_r z1 hU'
  have z2' := mul_mono_r z2 hU'
  rw [Int.add_mul] at z1'
  rw [Int.neg_mul, Int.add_mul] at z2'
  have z0' : Z * (U : Int) = Vk σ1 * (U : Int) + Vk σ2 * (U : Int) ∨ Z * (U : Int) = -(Vk σ1 * (U : Int) + Vk σ2 * (U : Int)) := by
    rcases z0 with z | z
    · left; rw [z, Int.add_mul]
    · right; rw [z, Int.neg_mul, Int.add_mul]
  obtain ⟨r1, r2⟩ := off_lin hU' w1 w2 kx lx gap x1 x2 y1 y2 e1 e1' e2 e2' z1' z2' z0' e3 e3'
  rcases Int.le_total 0 (Vk u - Vk α) with g | g
  · rw [show ((Vk u - Vk α).natAbs : Int) = Vk u - Vk α by omega, Int.sub_mul]; exact r1
  · rw [show ((Vk u - Vk α).natAbs : Int) = Vk α - Vk u by omega, Int.sub_mul]; exact r2
/-- The corners of the box about a product of modest middles. -/
theorem mul_box (F : Ops) {x y x2 y2 : Int} (fx : Fin x) (fy : Fin y) (fx2 : Fin x2) (fy2 : Fin y2) (hx : (x.natAbs : Int) ≤ pw2 300) (hy : (y.natAbs : Int) ≤ pw2 300) (hx2 : (x2.natAbs : Int) ≤ pw2 300) (hy2 : (y2.natAbs : Int) ≤ pw2 300) :
    -pw2 601 ≤ F.aD (F.mD x x2) (-(F.mU y y2)) ∧ F.aU (F.mU x x2) (-(F.mD y y2)) ≤ pw2 601 ∧ -pw2 601 ≤ F.aD (F.mD x y2) (F.mD y x2) ∧ F.aU (F.mU x y2) (F.mU y x2) ≤ pw2 601 := by
  have p6 := pw2_bd 600 (by omega)
  obtain ⟨a1, a2, a3, a4, a5⟩ := F.m_within fx fx2 hx hx2 (by omega)
  obtain ⟨b1, b2, b3, b4, b5⟩ := F.m_within fy fy2 hy hy2 (by omega)
  obtain ⟨c1, c2, c3, c4, c5⟩ := F.m_within fx fy2 hx hy2 (by omega)
  obtain ⟨d1, d2, d3, d4, d5⟩ := F.m_within fy fx2 hy hx2 (by omega)
  have e6 : pw2 (300 + 300) = pw2 600 := rfl
  rw [e6] at a1 a3 b1 b3 c1 c3 d1 d3
  obtain ⟨k1, _⟩ := F.a_within (e := 600) a4 b5.neg (by omega) (by omega) (by omega)
  obtain ⟨_, _, l3, _⟩ := F.a_within (e := 600) a5 b4.neg (by omega) (by omega) (by omega)
  obtain ⟨m1, _⟩ := F.a_within (e := 600) c4 d4 (by omega) (by omega) (by omega)
  obtain ⟨_, _, n3, _⟩ := F.a_within (e := 600) c5 d5 (by omega) (by omega) (by omega)
  exact ⟨k1, l3, m1, n3⟩
theorem diff_bd {u α δ : Int} (n : Nr (Vk u - Vk α) 1 δ) (a1 : u ≤ pw2 601) (b1 : -pw2 601 ≤ u) (a2 : α ≤ pw2 601) (b2 : -pw2 601 ≤ α) : (δ.natAbs : Int) ≤ hMax := by
  have p := pw2_bd 602 (by omega)
  have hI := INF_pos
  have d : Vk (pw2 602) = 2 * Vk (pw2 601) := Vk_pw2_succ 601
  have i1 := Vk_le.2 a1
  have i2 := Vk_le.2 a2
  have i3 := Vk_le.2 b1
  have i4 := Vk_le.2 b2
  rw [Vk_neg] at i3 i4
  have a := n.fin (pw2 602) (by omega) (by omega) (by omega)
  have b := n.neg.fin (pw2 602) (by omega) (by omega) (by omega)
  exact nab_le a (by omega) p.2.2
theorem strike {a b c T U : Int} (hU : 0 < U) (h : a * U * 17592186044416 ≤ b * U * 17592186044432 + c * U * 16 + 17592186044416 * (T * U)) : a * 17592186044416 ≤ b * 17592186044432 + c * 16 + 17592186044416 * T := by
  refine Int.le_of_mul_le_mul_right (?_ : a * 17592186044416 * U ≤ (b * 17592186044432 + c * 16 + 17592186044416 * T) * U) hU
  have e1 : a * 17592186044416 * U = a * U * 17592186044416 := by grind
  have e2 : (b * 17592186044432 + c * 16 + 17592186044416 * T) * U = b * U * 17592186044432 + c * U * 16 + 17592186044416 * (T * U) := by grind
  rw [e1, e2]; exact h
theorem xy_le {P Q H1 H2 A1 A2 A3 A4 U : Int} (hU : 1 ≤ U) (P0 : 0 ≤ P) (_Q0 : 0 ≤ Q) (_H0 : 0 ≤ H1) (h1 : H1 ≤ 2 * (P + 1)) (h2 : H2 ≤ 2 * (Q + 1)) (H0' : 0 ≤ H2) (a1 : A1 ≤ H1 * H2) (a2 : A2 ≤ H1 * H2) (a3 : A3 ≤ H1 * H2) (a4 : A4 ≤ H1 * H2) :
    A1 + A2 + A3 + A4 ≤ 16 * (P * Q + P + Q + U) := by
  have m := Int.mul_le_mul h1 h2 H0' (by omega)
  have e : 2 * (P + 1) * (2 * (Q + 1)) = 4 * (P * Q) + 4 * P + 4 * Q + 4 := by grind
  generalize P * Q = PQ at *
  generalize H1 * H2 = HH at *
  omega
theorem tU {d n U : Int} (hU : 0 ≤ U) (h : d * 1 * 4503599627370496 ≤ n * 4503599627370497 + 4503599627370496 * 1) : d * U * 4503599627370496 ≤ n * U * 4503599627370497 + 4503599627370496 * U := by
  have m := mul_mono_r h hU
  have e1 : d * 1 * 4503599627370496 * U = d * U * 4503599627370496 := by grind
  have e2 : (n * 4503599627370497 + 4503599627370496 * 1) * U = n * U * 4503599627370497 + 4503599627370496 * U := by grind
  rw [e1, e2] at m; exact m
theorem tU2 {h dx dy U : Int} (hU : 0 ≤ U) (hh : h * 4503599627370496 ≤ 2 * (dx + dy) * 4503599627370497 + 4503599627370496) : h * U * 4503599627370496 ≤ 2 * (dx * U + dy * U) * 4503599627370497 + 4503599627370496 * U := by
  have m := mul_mono_r hh hU
  have e1 : h * 4503599627370496 * U = h * U * 4503599627370496 := by grind
  have e2 : (2 * (dx + dy) * 4503599627370497 + 4503599627370496) * U = 2 * (dx * U + dy * U) * 4503599627370497 + 4503599627370496 * U := by grind
  rw [e1, e2] at m; exact m
-- products are near enough
set_option maxHeartbeats 4000000 in
theorem close_mul {F : Ops} {x y t x2 y2 t2 u v c q1 q2 : Int} (fx : Fin x) (fy : Fin y) (fx2 : Fin x2) (fy2 : Fin y2) (t0 : 0 ≤ t) (t1 : t ≤ pw2 300) (s0 : 0 ≤ t2) (s1 : t2 ≤ pw2 300) (hx : (x.natAbs : Int) ≤ pw2 300) (hy : (y.natAbs : Int) ≤ pw2 300) (hx2 : (x2.natAbs : Int) ≤ pw2 300) (hy2 : (y2.natAbs : Int) ≤ pw2 300)
    (h : Ard F (F.aD (F.mD x x2) (-(F.mU y y2))) (F.aU (F.mU x x2) (-(F.mD y y2))) (F.aD (F.mD x y2) (F.mD y x2)) (F.aU (F.mU x y2) (F.mU y x2)) u v c) (l1 : LenOk F x y q1) (l2 : LenOk F x2 y2 q2)
    (ht : F.aU c (F.aU (F.aU (F.mU q1 t2) (F.mU q2 t)) (F.mU t t2)) < INF) {a b a2 b2 r r' pw qw : Nat} (ka : Key a x) (kb : Key b y) (ka2 : Key a2 x2) (kb2 : Key b2 y2) (kr : Key r t) (kr' : Key r' t2) {p q H1 H2 : Int} (kp : Key pw p) (kq : Key qw q) (p0 : 0 ≤ p) (q0 : 0 ≤ q) (p1 : p ≤ pw2 303) (p2 : q ≤ pw2 303)
    (hH1 : 0 ≤ H1) (hH2 : 0 ≤ H2) (ab1 : Vk x * Vk x + Vk y * Vk y ≤ H1 * H1) (ab2 : Vk x2 * Vk x2 + Vk y2 * Vk y2 ≤ H2 * H2) (b1 : H1 * 4503599627370496 ≤ (Vk p + 1) * 4503599627370503 + 4503599627370496) (b2' : H2 * 4503599627370496 ≤ (Vk q + 1) * 4503599627370503 + 4503599627370496) :
    ∃ mx my r2 r3 r4 r5 r6 m2, cMulBits a b a2 b2 = some (mx, my) ∧ Ieee.double.mul pw r' = some r2 ∧ Ieee.double.mul qw r = some r3 ∧ Ieee.double.add r2 r3 = some r4 ∧ Ieee.double.mul r r' = some r5 ∧ Ieee.double.add r4 r5 = some r6 ∧ Ieee.double.mul pw qw = some m2 ∧
    ∀ w, Calls Try.prog 75 #[.agg #[.complex .f64 (B u) (B v), .float .f64 (B (F.aU c (F.aU (F.aU (F.mU q1 t2) (F.mU q2 t)) (F.mU t t2))))], .complex .f64 mx my, .float .f64 r6, .float .f64 m2] w fun e w' => e = .returned (.bool true) ∧ Below w.heap.size w w' := by
  have hU := U_posI
  have hU' := Int.le_of_lt hU
  have hU1 : 1 ≤ (U : Int) := by omega
  have hI := INF_pos
  have w300 := pw2_bd 300 (by omega)
  have t1' : t < INF := by omega
  have s1' : t2 < INF := by omega
  have ft := Fin.of t0 t1'
  have ft2 := Fin.of s0 s1'
  have vt := Vk_nn t0
  have vt2 := Vk_nn s0
  have vp := Vk_nn p0
  have vq := Vk_nn q0
  obtain ⟨pq1, q10, _⟩ := l1.ge fx.pl fy.pl
  obtain ⟨pq2, q20, _⟩ := l2.ge fx2.pl fy2.pl
  have pm1 := (F.mul_pl pq1 ft2.pl).2
  have pm2 := (F.mul_pl pq2 ft.pl).2
  have pm3 := (F.mul_pl ft.pl ft2.pl).2
  have z1 := (F.mul_pos pq1 ft2.pl q10 s0).2
  have z2 := (F.mul_pos pq2 ft.pl q20 t0).2
  have z3 := (F.mul_pos ft.pl ft2.pl t0 s0).2
  have pa := (F.add_pl pm1 pm2).2
  have z4 := F.aU_nn pm1 pm2 z1 z2
  have pT := (F.add_pl pa pm3).2
  have T0 := F.aU_nn pa pm3 z4 z3
  obtain ⟨j1, j2, j3, j4⟩ := mul_box F fx fy fx2 fy2 hx hy hx2 hy2
  obtain ⟨_, hT, _, _, _, zτ⟩ := h.rad pT T0 ht
  obtain ⟨k1, k2, k3, k4, g1, g2, i1, i2, i3, i4, hc, hτ⟩ := mul_mid fx fy fx2 fy2 hx hy hx2 hy2 h pT T0 ht
  obtain ⟨A1, A2⟩ := abs_le_H hH1 ab1
  obtain ⟨A3, A4⟩ := abs_le_H hH2 ab2
  have m1 := abs_mul_le A1 A3
  have m2 := abs_mul_le A2 A4
  have m3 := abs_mul_le A1 A4
  have m4 := abs_mul_le A2 A3
  have XYle := xy_le hU1 vp vq hH1 (H_le vp b1) (H_le vq b2') hH2 m1 m2 m3 m4
  clear m1 m2 m3 m4 A1 A2 A3 A4
  have n1 : (0 : Int) ≤ ((Vk x * Vk x2).natAbs : Int) := Int.natCast_nonneg _
  have n2 : (0 : Int) ≤ ((Vk y * Vk y2).natAbs : Int) := Int.natCast_nonneg _
  have n3 : (0 : Int) ≤ ((Vk x * Vk y2).natAbs : Int) := Int.natCast_nonneg _
  have n4 : (0 : Int) ≤ ((Vk y * Vk x2).natAbs : Int) := Int.natCast_nonneg _
  have XY0 : 0 ≤ ((Vk x * Vk x2).natAbs : Int) + ((Vk y * Vk y2).natAbs : Int) + ((Vk x * Vk y2).natAbs : Int) + ((Vk y * Vk x2).natAbs : Int) := Int.add_nonneg (Int.add_nonneg (Int.add_nonneg n1 n2) n3) n4
  have V1 := VV_pos
  have W0 : 0 ≤ (40 * (VV : Int) + 100) * (U : Int) := nn_mul (by clear n1 n2 n3 n4 XY0 XYle; omega) hU'
  rw [show 4503599627370496 * (40 * (VV : Int) + 100) * (U : Int) = 4503599627370496 * ((40 * (VV : Int) + 100) * (U : Int)) from Int.mul_assoc _ _ _] at hc
  have R := mul_rad fx fy fx2 fy2 t0 t1' s0 s1' l1 l2 hH1 hH2 ab1 ab2 W0 XY0 hT hc hτ
  obtain ⟨r2, ρ2, e2, kr2, r20, r21, c2⟩ := own_mul_le 303 300 (by decide) kp kr' p0 s0 p1 s1
  obtain ⟨r3, ρ3, e3, kr3, r30, r31, c3⟩ := own_mul_le 303 300 (by decide) kq kr q0 t0 p2 t1
  obtain ⟨r4, ρ4, e4, kr4, r40, r41, c4⟩ := own_add_le (303 + 300) (by decide) kr2 kr3 r20 r30 r21 r31
  obtain ⟨r5, ρ5, e5, kr5, r50, r51, c5⟩ := own_mul_le 300 300 (by decide) kr kr' t0 s0 t1 s1
  obtain ⟨r6, ρ6, e6, kr6, r60, r61, c6⟩ := own_add_le (303 + 300 + 1) (by decide) kr4 kr5 r40 r50 r41 (Int.le_trans r51 (pw2_mono (by decide)))
  obtain ⟨mm, μ, e7, km, μ0, μ1, c7⟩ := own_mul_le 303 303 (by decide) kp kq p0 q0 p1 p2
  have room' := room
  have vt' := Vk_le.2 (Int.le_trans t1 (pw2_mono (show 300 ≤ 303 by omega)))
  have vt2' := Vk_le.2 (Int.le_trans s1 (pw2_mono (show 300 ≤ 303 by omega)))
  have vp' := Vk_le.2 p1
  have vq' := Vk_le.2 p2
  have L := prod_lin (T := (T8 : Int) * (U : Int)) hU' W0 vt vt2 vp vq (nn_mul vp vt2) (nn_mul vq vt) (nn_mul vp vq) (nn_mul vt vt2) R (H_mul vt2 b1) (H_mul vt b2') XYle c2 c3 c4 c5 c6 c7 (by clear R XYle XY0 hc hτ n1 n2 n3 n4 g1 g2 c2 c3 c4 c5 c6 c7; omega)
  have B1 := bound_ok (Key.at (Fin.of zτ ht).pl) kr6 km r60 (Int.le_trans r61 (pw2_mono (by decide))) μ0 (Int.le_trans μ1 (pw2_mono (by decide))) (strike hU L)
  -- the middle
  obtain ⟨ac, σ1, f1, kσ1, nσ1, o1, o1'⟩ := own_mul_abs ka ka2 fx fx2 hx hx2
  obtain ⟨bd, σ2, f2, kσ2, nσ2, o2, o2'⟩ := own_mul_abs kb kb2 fy fy2 hy hy2
  obtain ⟨ad, σ3, f3, kσ3, nσ3, o3, o3'⟩ := own_mul_abs ka kb2 fx fy2 hx hy2
  obtain ⟨bc, σ4, f4, kσ4, nσ4, o4, o4'⟩ := own_mul_abs kb ka2 fy fx2 hy hx2
  have w600 := pw2_bd 600 (by omega)
  have w601 := pw2_bd 601 (by omega)
  have w602 := pw2_bd 602 (by omega)
  clear L R XY0 hc hτ b1 b2' hx hy hx2 hy2
  have fin6 : ∀ s : Int, s ≤ pw2 600 → -pw2 600 ≤ s → Fin s := fun s a b => by unfold Fin; omega
  have F1 := fin6 _ o1 o1'
  have F2 := fin6 _ o2 o2'
  have F3 := fin6 _ o3 o3'
  have F4 := fin6 _ o4 o4'
  obtain ⟨mx, αx, f5, kαx, nαx⟩ := own_sub kσ1 kσ2 F1 F2
  obtain ⟨my, αy, f6, kαy, nαy⟩ := own_add kσ3 kσ4 F3.1 F3.2 F4.1 F4.2
  have nαx' : Nr (Vk σ1 + Vk (-σ2)) 1 αx := by rw [Vk_neg]; exact nαx
  obtain ⟨x1, x1'⟩ := sum_bd nαx' o1 o1' (by omega) (by omega)
  obtain ⟨x2', x2''⟩ := sum_bd nαy o3 o3' o4 o4'
  have fin7 : ∀ s : Int, s ≤ pw2 601 → -pw2 601 ≤ s → Fin s := fun s a b => by unfold Fin; omega
  have fax := fin7 _ x1 x1'
  have fay := fin7 _ x2' x2''
  have F2n : Fin (-σ2) := by unfold Fin at *; omega
  have P1 := part_off k1 k2 (X := Vk x * Vk x2) (Y := -(Vk y * Vk y2)) (by omega) (by omega) (by rw [Int.natAbs_neg]; exact g1) nσ1 nσ2.neg nαx' F1 F2n fax
  have P2 := part_off k3 k4 (X := Vk x * Vk y2) (Y := Vk y * Vk x2) i3 i4 g2 nσ3 nσ4 nαy F3 F4 fay
  rw [Int.natAbs_neg] at P1
  obtain ⟨dx, δx, ex, kdx, ndx⟩ := own_sub (Key.at h.fu.pl) kαx h.fu fax
  obtain ⟨dy, δy, ey, kdy, ndy⟩ := own_sub (Key.at h.fv.pl) kαy h.fv fay
  have fδx := diff_bd ndx (Int.le_trans k2 j2) (Int.le_trans j1 k1) x1 x1'
  have fδy := diff_bd ndy (Int.le_trans k4 j4) (Int.le_trans j3 k3) x2' x2''
  have Y1 := tU hU' (ndx.abs (by decide) kdx.bd.1 kdx.bd.2)
  have Y2 := tU hU' (ndy.abs (by decide) kdy.bd.1 kdy.bd.2)
  obtain ⟨hw, σ, kh, h0, h1, _, hh, ch⟩ := size_ok kdx kdy fδx fδy
  have L2 := dev2_lin (T := (T8 : Int) * (U : Int)) (μ := Vk μ * (U : Int)) hU1 (nn_mul vp vq) vp vq (tU2 hU' hh) Y1 Y2 P1 P2 (by rw [← Int.add_assoc]) (Int.add_nonneg n1 n2) (Int.add_nonneg n3 n4) XYle c7 (by clear XYle P1 P2 Y1 Y2 hh n1 n2 n3 n4 g1 g2 c2 c3 c4 c5 c6 c7 fδx fδy; omega)
  have L3 : Vk σ * 17592186044416 ≤ 0 * 17592186044432 + Vk μ * 16 + 17592186044416 * (T8 : Int) := strike hU (by rw [Int.zero_mul]; exact L2)
  have B2 := bound_ok kh Key.zero km (Int.le_refl _) (Int.le_of_lt (pw2_bd 800 (by decide)).1) μ0 (Int.le_trans μ1 (pw2_mono (by decide))) (by rw [Vk_zero]; exact L3)
  exact ⟨mx, my, r2, r3, r4, r5, r6, mm, cmul_bits f1 f2 f5 f3 f4 f6, e2, e3, e4, e5, e6, e7, close_w _ _ _ mx my r6 mm dx dy hw B1 (csum_sub ex ey) ch B2⟩
end Go.Proofs.Ytacnclofbnafiaa

namespace Go.Proofs.Ytacnclofbnafiaa
open Go.RowKit Fl

/-- The place of a power of 2, from the least normal one on. -/
def pwn (n : Nat) : Int := (n : Int) * 4503599627370496 + 4503599627370496
theorem pw2_n (e : Nat) : pw2 e = pwn (e + 1022) := rfl
theorem Vk_pwn (n : Nat) : Vk (pwn n) = ((2 ^ (52 + n) : Nat) : Int) := by
  unfold pwn
  rw [Vk_of_nn (by omega), show ((n : Int) * 4503599627370496 + 4503599627370496).natAbs = n * 4503599627370496 + 4503599627370496 by omega, M_pow]
theorem pwn_mono {a b : Nat} (h : a ≤ b) : pwn a ≤ pwn b := by unfold pwn; omega
theorem pwn_bd {n : Nat} (h : n ≤ 2045) : 0 < pwn n ∧ pwn n < INF := by rw [INF_eq]; unfold pwn; omega
theorem Vk_pwn_mul {a b c : Nat} (h : a + b = c + 1022) : Vk (pwn a) * Vk (pwn b) = Vk (pwn c) * (U : Int) := by
  rw [Vk_pwn, Vk_pwn, Vk_pwn, ← Int.natCast_mul, ← Int.natCast_mul]
  have k : 2 ^ (52 + a) * 2 ^ (52 + b) = 2 ^ (52 + c) * U := by
    unfold U
    rw [← Nat.pow_add, ← Nat.pow_add, show 52 + a + (52 + b) = 52 + c + EE by rw [EE_eq]; omega]
  rw [k]
theorem Vk_pwn_succ (n : Nat) : Vk (pwn (n + 1)) = 2 * Vk (pwn n) := by
  rw [Vk_pwn, Vk_pwn, show 52 + (n + 1) = (52 + n) + 1 by omega, Nat.pow_succ]
  generalize 2 ^ (52 + n) = Y
  omega
theorem Ops.mU_le (F : Ops) {a b : Int} {i j c : Nat} (h : i + j = c + 1022) (hi : i ≤ 2045) (hj : j ≤ 2045) (hc : c ≤ 2045) (a0 : 0 ≤ a) (a1 : a ≤ pwn i) (b0 : 0 ≤ b) (b1 : b ≤ pwn j) : 0 ≤ F.mU a b ∧ F.mU a b ≤ pwn c := by
  have p1 := pwn_bd hi
  have p2 := pwn_bd hj
  have p3 := pwn_bd hc
  have fa : Fin a := Fin.of a0 (by omega)
  have fb : Fin b := Fin.of b0 (by omega)
  refine ⟨(F.mul_pos fa.pl fb.pl a0 b0).2, ?_⟩
  refine (((F.mul fa.pl fb.pl).num fa.1 fa.2 fb.1 fb.2).up.ok (pwn c) (by omega) p3.2).1 ?_
  have m := Int.mul_le_mul (Vk_le.2 a1) (Vk_le.2 b1) (Vk_nn b0) (Int.le_trans (Vk_nn a0) (Vk_le.2 a1))
  rw [Vk_pwn_mul h] at m
  unfold Et
  omega
theorem Ops.aU_le (F : Ops) {a b : Int} {i : Nat} (hi : i + 1 ≤ 2045) (a0 : 0 ≤ a) (a1 : a ≤ pwn i) (b0 : 0 ≤ b) (b1 : b ≤ pwn i) : 0 ≤ F.aU a b ∧ F.aU a b ≤ pwn (i + 1) := by
  have p1 := pwn_bd (show i ≤ 2045 by omega)
  have fa : Fin a := Fin.of a0 (by omega)
  have fb : Fin b := Fin.of b0 (by omega)
  have p3 := pwn_bd hi
  have d := Vk_pwn_succ i
  refine ⟨F.aU_nn fa.pl fb.pl a0 b0, ?_⟩
  generalize pwn (i + 1) = j at *
  refine (((F.add fa.pl fb.pl).num fa.1 fa.2 fb.1 fb.2).up.ok j (by omega) p3.2).1 ?_
  have m1 := Vk_le.2 a1
  have m2 := Vk_le.2 b1
  unfold Ep
  omega
theorem Ops.sU_le (F : Ops) {a : Int} {i g : Nat} (h : i + i = g + 1022) (hi : i ≤ 2045) (hg : g ≤ 2045) (a0 : 0 ≤ a) (a1 : a ≤ pwn g) : 0 ≤ F.sU a ∧ F.sU a ≤ pwn i := by
  have p1 := pwn_bd hi
  have p2 := pwn_bd hg
  have fa : Fin a := Fin.of a0 (by omega)
  refine ⟨(F.sU_fin fa.pl a0).1, ?_⟩
  refine (((F.sqrt fa.pl a0).num a0 fa.2).up.ok (pwn i) (by omega) p1.2).1 ?_
  have m := mul_mono_r (Vk_le.2 a1) (Int.le_of_lt U_posI)
  rw [← Vk_pwn_mul h] at m
  have v := Vk_nn (Int.le_of_lt p1.1)
  unfold Er
  rw [if_neg (by omega)]
  omega
theorem Ops.len_le (F : Ops) {a b s s' : Int} {i σ σ' i' g : Nat} (hs : s = pwn σ) (hs' : s' = pwn σ') (e1 : σ + σ' = 2044) (e2 : i + σ = i' + 1022) (e3 : i' + i' = g + 1022) (h1 : i ≤ 2040) (h2 : i' ≤ 2040) (h3 : g ≤ 2040) (a0 : 0 ≤ a) (a1 : a ≤ pwn i) (b0 : 0 ≤ b) (b1 : b ≤ pwn i) :
    F.len s s' a b ≤ pwn (i + 1) := by
  subst hs
  subst hs'
  have q1 := pwn_bd (show σ ≤ 2045 by omega)
  have q2 := pwn_bd (show σ' ≤ 2045 by omega)
  obtain ⟨c1, c2⟩ := F.mU_le e2 (by omega) (by omega) (by omega) a0 a1 (Int.le_of_lt q1.1) (Int.le_refl _)
  obtain ⟨d1, d2⟩ := F.mU_le e2 (by omega) (by omega) (by omega) b0 b1 (Int.le_of_lt q1.1) (Int.le_refl _)
  obtain ⟨f1, f2⟩ := F.mU_le e3 (by omega) (by omega) (by omega) c1 c2 c1 c2
  obtain ⟨g1, g2⟩ := F.mU_le e3 (by omega) (by omega) (by omega) d1 d2 d1 d2
  obtain ⟨k1, k2⟩ := F.aU_le (by omega) f1 f2 g1 g2
  obtain ⟨l1, l2⟩ := F.sU_le (i := i' + 1) (g := g + 2) (by omega) (by omega) (by omega) k1 (Int.le_trans k2 (pwn_mono (by omega)))
  exact (F.mU_le (c := i + 1) (by omega) (by omega) (by omega) (by omega) l1 l2 (Int.le_of_lt q2.1) (Int.le_refl _)).2
theorem LenOk.le {F : Ops} {a b m : Int} {n : Nat} (hn : 622 ≤ n) (hn2 : n ≤ 1722) (ha : (a.natAbs : Int) ≤ pwn n) (hb : (b.natAbs : Int) ≤ pwn n) (h : LenOk F a b m) : m ≤ pwn (n + 1) := by
  have p := pwn_mono (show n ≤ n + 1 by omega)
  cases h with
  | l _ => omega
  | r _ => omega
  | one _ _ h1 h2 =>
    have e : (6858982232485265408 : Int) = pwn 1522 := rfl
    rw [e] at h1
    rcases Nat.le_total n 1522 with g | g
    · exact F.len_le (i := n) (i' := n) (g := n + n - 1022) (σ := 1022) (σ' := 1022) rfl rfl rfl rfl (by omega) (by omega) (by omega) (by omega) (by omega) ha (by omega) hb
    · exact Int.le_trans (F.len_le (i := 1522) (i' := 1522) (g := 2022) (σ := 1022) (σ' := 1022) rfl rfl rfl rfl rfl (by omega) (by omega) (by omega) (by omega) (by omega) (by omega) (by omega)) (pwn_mono (by omega))
  | big _ _ h1 =>
    have e : (6858982232485265408 : Int) = pwn 1522 := rfl
    rw [e] at h1
    have g : 1522 < n := by unfold pwn at h1 ha hb; omega
    exact F.len_le (i := n) (i' := n - 600) (g := n - 600 + (n - 600) - 1022) (σ := 422) (σ' := 1622) rfl rfl rfl (by omega) (by omega) (by omega) (by omega) (by omega) (by omega) ha (by omega) hb
  | small _ _ h1 =>
    have e : (2805742567851819008 : Int) = pwn 622 := rfl
    rw [e] at h1
    exact Int.le_trans (F.len_le (i := 622) (i' := 1222) (g := 1422) (σ := 1622) (σ' := 422) rfl rfl rfl rfl rfl (by omega) (by omega) (by omega) (by omega) (by omega) (by omega) (by omega)) (pwn_mono (by omega))
/-- Modest boxes have a disc about them. -/
theorem Ard.fits {F : Ops} {k l m n u v c t : Int} (h : Ard F k l m n u v c) (kl : k ≤ l) (mn : m ≤ n) (k1 : -pw2 601 ≤ k) (l1 : l ≤ pw2 601) (m1 : -pw2 601 ≤ m) (n1 : n ≤ pw2 601) (t0 : 0 ≤ t) (t1 : t ≤ pw2 609) : F.aU c t < INF := by
  have p1 := pw2_bd 601 (by omega)
  have p2 := pw2_bd 602 (by omega)
  obtain ⟨u1, u2⟩ := h.mu.mid kl (by omega) (by omega)
  obtain ⟨v1, v2⟩ := h.mv.mid mn (by omega) (by omega)
  obtain ⟨a1, a2, a3, _⟩ := F.a_within (e := 601) h.fl h.fu.neg (by omega) (by omega) (by omega)
  obtain ⟨b1, b2, b3, _⟩ := F.a_within (e := 601) h.fu h.fk.neg (by omega) (by omega) (by omega)
  obtain ⟨c1, c2, c3, _⟩ := F.a_within (e := 601) h.fn h.fv.neg (by omega) (by omega) (by omega)
  obtain ⟨d1, d2, d3, _⟩ := F.a_within (e := 601) h.fv h.fm.neg (by omega) (by omega) (by omega)
  have e2 : pw2 (601 + 1) = pwn 1624 := rfl
  rw [e2] at a1 a3 b1 b3 c1 c3 d1 d3
  obtain ⟨q1, q2⟩ := h.pl
  have c0 := (h.len.ge q1 q2).2.1
  have L := h.len.le (n := 1624) (by omega) (by omega) (by omega) (by omega)
  have e3 : pw2 609 = pwn 1631 := rfl
  rw [e3] at t1
  have := (F.aU_le (i := 1631) (by omega) c0 (Int.le_trans L (pwn_mono (by omega))) t0 t1).2
  have := (pwn_bd (show 1631 + 1 ≤ 2045 by omega)).2
  omega
theorem Ops.pLo_one (F : Ops) (x y : Int) : F.pLo x x y y = F.mD x y := by unfold Ops.pLo; omega
theorem Ops.pHi_one (F : Ops) (x y : Int) : F.pHi x x y y = F.mU x y := by unfold Ops.pHi; omega
end Go.Proofs.Ytacnclofbnafiaa

namespace Go.Proofs.Ytacnclofbnafiaa
open Go.RowKit Fl

/-- A disc with numbers. -/
def NN (a b r : Nat) : Prop := (∃ x y t, DFin a b r x y t) ∨ Key r INF
theorem NN.lone {a b r : Nat} (h : NN a b r) : (∀ w, Calls Try.prog 72 #[.agg #[.complex .f64 a b, .float .f64 r]] w fun e' w' => e' = .returned (.bool false) ∧ Below w.heap.size w w') := by
  rcases h with ⟨x, y, t, h⟩ | h
  · exact rlone_fin h
  · exact rlone_all h
theorem alld_ge {e f i : Nat} (h : AllD e f i) : (Ieee.double.order i 0 == some .gt || Ieee.double.order i 0 == some .eq) = true := by
  obtain ⟨_, _, rfl⟩ := h
  rw [geb0 (Key.at pl_inf)]
  exact decide_eq_true (by have := INF_pos; omega)
theorem fin_ge {t : Int} (t0 : 0 ≤ t) (t1 : t < INF) : (Ieee.double.order (B t) 0 == some .gt || Ieee.double.order (B t) 0 == some .eq) = true := by
  rw [geb0 (Key.at (Fin.of t0 t1).pl)]
  exact decide_eq_true t0
theorem nod_mone {e f i : Nat} (h : NoD e f i) : (Ieee.double.order i 13830554455654793216 == some .eq) = true := by
  obtain ⟨_, _, rfl⟩ := h
  rw [Key.mone.self]; rfl
theorem ansAdd (F : Ops) {a b r a2 b2 r2 : Nat} (h : NN a b r) (g : NN a2 b2 r2) : ∃ e f i, (∀ w, Calls Try.prog 67 #[.agg #[.complex .f64 a b, .float .f64 r], .agg #[.complex .f64 a2 b2, .float .f64 r2]] w fun e' w' => e' = .returned (.agg #[.complex .f64 e f, .float .f64 i]) ∧ Below w.heap.size w w') ∧ (∀ w, Calls Try.prog 70 #[.agg #[.complex .f64 e f, .float .f64 i]] w fun e' w' => e' = .returned (.bool true) ∧ Below w.heap.size w w') ∧ (Ieee.double.order i 0 == some .gt || Ieee.double.order i 0 == some .eq) = true := by
  rcases h with ⟨x, y, t, h⟩ | h
  · rcases g with ⟨x2, y2, t2, g⟩ | g
    · obtain ⟨e, f, i, c, q⟩ := discAdd_fin F h g
      refine ⟨e, f, i, c, ?_⟩
      have ft := Fin.of h.r0 h.r1
      have ft2 := Fin.of g.r0 g.r1
      rcases q with ⟨q, _⟩ | ⟨u, v, c, A, lt, rfl, rfl, rfl⟩
      · exact ⟨form_alld q, alld_ge q⟩
      · have z := (A.rad (F.add_pl ft.pl ft2.pl).2 (F.aU_nn ft.pl ft2.pl h.r0 g.r0) lt).2.2.2.2.2
        exact ⟨form_fin A.fu A.fv z lt, fin_ge z lt⟩
    · obtain ⟨e, f, i, q, c⟩ := discAdd_all2 h g
      exact ⟨e, f, i, c, form_alld q, alld_ge q⟩
  · obtain ⟨e, f, i, q, c⟩ := discAdd_all1 (b := b) (a := a) h g
    exact ⟨e, f, i, c, form_alld q, alld_ge q⟩
theorem ansSub (F : Ops) {a b r a2 b2 r2 : Nat} (h : NN a b r) (g : NN a2 b2 r2) : ∃ e f i, (∀ w, Calls Try.prog 68 #[.agg #[.complex .f64 a b, .float .f64 r], .agg #[.complex .f64 a2 b2, .float .f64 r2]] w fun e' w' => e' = .returned (.agg #[.complex .f64 e f, .float .f64 i]) ∧ Below w.heap.size w w') ∧ (∀ w, Calls Try.prog 70 #[.agg #[.complex .f64 e f, .float .f64 i]] w fun e' w' => e' = .returned (.bool true) ∧ Below w.heap.size w w') ∧ (Ieee.double.order i 0 == some .gt || Ieee.double.order i 0 == some .eq) = true := by
  rcases h with ⟨x, y, t, h⟩ | h
  · rcases g with ⟨x2, y2, t2, g⟩ | g
    · obtain ⟨e, f, i, c, q⟩ := discSub_fin F h g
      refine ⟨e, f, i, c, ?_⟩
      have ft := Fin.of h.r0 h.r1
      have ft2 := Fin.of g.r0 g.r1
      rcases q with ⟨q, _⟩ | ⟨u, v, c, A, lt, rfl, rfl, rfl⟩
      · exact ⟨form_alld q, alld_ge q⟩
      · have z := (A.rad (F.add_pl ft.pl ft2.pl).2 (F.aU_nn ft.pl ft2.pl h.r0 g.r0) lt).2.2.2.2.2
        exact ⟨form_fin A.fu A.fv z lt, fin_ge z lt⟩
    · obtain ⟨e, f, i, q, c⟩ := discSub_all2 h g
      exact ⟨e, f, i, c, form_alld q, alld_ge q⟩
  · obtain ⟨e, f, i, q, c⟩ := discSub_all1 (b := b) (a := a) h g
    exact ⟨e, f, i, c, form_alld q, alld_ge q⟩
theorem ansMul (F : Ops) {a b r a2 b2 r2 : Nat} (h : NN a b r) (g : NN a2 b2 r2) : ∃ e f i, (∀ w, Calls Try.prog 69 #[.agg #[.complex .f64 a b, .float .f64 r], .agg #[.complex .f64 a2 b2, .float .f64 r2]] w fun e' w' => e' = .returned (.agg #[.complex .f64 e f, .float .f64 i]) ∧ Below w.heap.size w w') ∧ (∀ w, Calls Try.prog 70 #[.agg #[.complex .f64 e f, .float .f64 i]] w fun e' w' => e' = .returned (.bool true) ∧ Below w.heap.size w w') ∧ (Ieee.double.order i 0 == some .gt || Ieee.double.order i 0 == some .eq) = true := by
  rcases h with ⟨x, y, t, h⟩ | h
  · rcases g with ⟨x2, y2, t2, g⟩ | g
    · obtain ⟨e, f, i, c, q⟩ := discMul_fin F h g
      refine ⟨e, f, i, c, ?_⟩
      have ft := Fin.of h.r0 h.r1
      have ft2 := Fin.of g.r0 g.r1
      rcases q with ⟨q, _⟩ | ⟨q1, q2, l1, l2, u, v, c, A, lt, rfl, rfl, rfl⟩
      · exact ⟨form_alld q, alld_ge q⟩
      · obtain ⟨pq1, q10, _⟩ := l1.ge h.fa.pl h.fb.pl
        obtain ⟨pq2, q20, _⟩ := l2.ge g.fa.pl g.fb.pl
        have pm1 := (F.mul_pl pq1 ft2.pl).2
        have pm2 := (F.mul_pl pq2 ft.pl).2
        have pm3 := (F.mul_pl ft.pl ft2.pl).2
        have z1 := (F.mul_pos pq1 ft2.pl q10 g.r0).2
        have z2 := (F.mul_pos pq2 ft.pl q20 h.r0).2
        have z3 := (F.mul_pos ft.pl ft2.pl h.r0 g.r0).2
        have pa := (F.add_pl pm1 pm2).2
        have z4 := F.aU_nn pm1 pm2 z1 z2
        have z := (A.rad (F.add_pl pa pm3).2 (F.aU_nn pa pm3 z4 z3) lt).2.2.2.2.2
        exact ⟨form_fin A.fu A.fv z lt, fin_ge z lt⟩
    · obtain ⟨e, f, i, q, c⟩ := discMul_all2 h g
      exact ⟨e, f, i, c, form_alld q, alld_ge q⟩
  · obtain ⟨e, f, i, q, c⟩ := discMul_all1 (b := b) (a := a) h g
    exact ⟨e, f, i, c, form_alld q, alld_ge q⟩
/-- Sums and differences of modest discs are finite. -/
theorem sum_fits {F : Ops} {x y t x2 y2 t2 : Int} (fx : Fin x) (fy : Fin y) (fx2 : Fin x2) (fy2 : Fin y2) (t0 : 0 ≤ t) (t1 : t ≤ pw2 300) (s0 : 0 ≤ t2) (s1 : t2 ≤ pw2 300) (hx : (x.natAbs : Int) ≤ pw2 300) (hy : (y.natAbs : Int) ≤ pw2 300) (hx2 : (x2.natAbs : Int) ≤ pw2 300) (hy2 : (y2.natAbs : Int) ≤ pw2 300)
    (h : Ovr F (F.aD x x2) (F.aU x x2) (F.aD y y2) (F.aU y y2) (F.aU t t2)) : False := by
  obtain ⟨i1, i2, i3, i4, i5⟩ := F.a_within fx fx2 hx hx2 (by omega)
  obtain ⟨j1, j2, j3, j4, j5⟩ := F.a_within fy fy2 hy hy2 (by omega)
  rcases h with h | ⟨u, v, c, A, e⟩
  · exact h ⟨i4, i5, j4, j5⟩
  · have m := pw2_mono (show 300 + 1 ≤ 601 by omega)
    have m2 := pw2_mono (show 300 + 1 ≤ 609 by omega)
    rw [pw2_n] at t1 s1
    obtain ⟨r0, r1⟩ := F.aU_le (by omega) t0 t1 s0 s1
    have e1 : pwn (300 + 1022 + 1) = pw2 (300 + 1) := rfl
    rw [e1] at r1
    have := A.fits i2 j2 (by omega) (by omega) (by omega) (by omega) r0 (by omega)
    omega
theorem mul_fits {F : Ops} {x y t x2 y2 t2 q1 q2 : Int} (fx : Fin x) (fy : Fin y) (fx2 : Fin x2) (fy2 : Fin y2) (t0 : 0 ≤ t) (t1 : t ≤ pw2 300) (s0 : 0 ≤ t2) (s1 : t2 ≤ pw2 300) (hx : (x.natAbs : Int) ≤ pw2 300) (hy : (y.natAbs : Int) ≤ pw2 300) (hx2 : (x2.natAbs : Int) ≤ pw2 300) (hy2 : (y2.natAbs : Int) ≤ pw2 300) (l1 : LenOk F x y q1) (l2 : LenOk F x2 y2 q2)
    (h : Ovr F (F.aD (F.mD x x2) (-(F.mU y y2))) (F.aU (F.mU x x2) (-(F.mD y y2))) (F.aD (F.mD x y2) (F.mD y x2)) (F.aU (F.mU x y2) (F.mU y x2)) (F.aU (F.aU (F.mU q1 t2) (F.mU q2 t)) (F.mU t t2))) : False := by
  have hU := U_posI
  have p6 := pw2_bd 600 (by omega)
  have q10 := (l1.ge fx.pl fy.pl).2.1
  have q20 := (l2.ge fx2.pl fy2.pl).2.1
  obtain ⟨a1, a2, a3, a4, a5⟩ := F.m_within fx fx2 hx hx2 (by omega)
  obtain ⟨b1, b2, b3, b4, b5⟩ := F.m_within fy fy2 hy hy2 (by omega)
  obtain ⟨c1, c2, c3, c4, c5⟩ := F.m_within fx fy2 hx hy2 (by omega)
  obtain ⟨d1, d2, d3, d4, d5⟩ := F.m_within fy fx2 hy hx2 (by omega)
  have e6 : pw2 (300 + 300) = pw2 600 := rfl
  rw [e6] at a1 a3 b1 b3 c1 c3 d1 d3
  obtain ⟨k1, k2, k3, k4, k5⟩ := F.a_within (e := 600) a4 b5.neg (by omega) (by omega) (by omega)
  obtain ⟨l1', l2', l3, l4, l5⟩ := F.a_within (e := 600) a5 b4.neg (by omega) (by omega) (by omega)
  obtain ⟨m1, m2, m3, m4, m5⟩ := F.a_within (e := 600) c4 d4 (by omega) (by omega) (by omega)
  obtain ⟨n1, n2, n3, n4, n5⟩ := F.a_within (e := 600) c5 d5 (by omega) (by omega) (by omega)
  have e7 : pw2 (600 + 1) = pw2 601 := rfl
  rw [e7] at k1 k3 l1' l3 m1 m3 n1 n3
  rcases h with h | ⟨u, v, c, A, e⟩
  · exact h ⟨k4, l5, m4, n5⟩
  · obtain ⟨g1, g2, g3⟩ := F.m_gap fx fx2 a4 a5
    obtain ⟨g4, g5, g6⟩ := F.m_gap fy fy2 b4 b5
    obtain ⟨g7, g8, g9⟩ := F.m_gap fx fy2 c4 c5
    obtain ⟨i1, i2, i3⟩ := F.m_gap fy fx2 d4 d5
    have w1 := part_gap F (X := Vk x * Vk x2) (Y := -(Vk y * Vk y2)) k4 l5 k5 l4 a4 a5 b5.neg b4.neg rfl rfl rfl rfl g1 g2 g3
      (by rw [Vk_neg, Vk_neg, Int.neg_mul, Int.neg_mul]; omega) (by rw [Vk_neg, Int.neg_mul]; omega) (by rw [Vk_neg, Int.neg_mul]; omega)
    have w2 := part_gap F (X := Vk x * Vk y2) (Y := Vk y * Vk x2) m4 n5 m5 n4 c4 c5 d4 d5 rfl rfl rfl rfl g7 g8 g9 i1 i2 i3
    have kl : F.aD (F.mD x x2) (-(F.mU y y2)) ≤ F.aU (F.mU x x2) (-(F.mD y y2)) := Vk_le.1 (Int.le_of_mul_le_mul_right (Int.le_trans w1.2.1 w1.2.2) hU)
    have mn : F.aD (F.mD x y2) (F.mD y x2) ≤ F.aU (F.mU x y2) (F.mU y x2) := Vk_le.1 (Int.le_of_mul_le_mul_right (Int.le_trans w2.2.1 w2.2.2) hU)
    clear w1 w2 g1 g2 g3 g4 g5 g6 g7 g8 g9 i1 i2 i3
    rw [pw2_n] at t1 s1 hx hy hx2 hy2
    have L1 := l1.le (by omega) (by omega) hx hy
    have L2 := l2.le (by omega) (by omega) hx2 hy2
    obtain ⟨y1, z1⟩ := F.mU_le (c := 1623) (by omega) (by omega) (by omega) (by omega) q10 L1 s0 s1
    obtain ⟨y2, z2⟩ := F.mU_le (c := 1623) (by omega) (by omega) (by omega) (by omega) q20 L2 t0 t1
    obtain ⟨y3, z3⟩ := F.mU_le (c := 1622) (by omega) (by omega) (by omega) (by omega) t0 t1 s0 s1
    obtain ⟨y4, z4⟩ := F.aU_le (by omega) y1 z1 y2 z2
    obtain ⟨y5, z5⟩ := F.aU_le (by omega) y4 z4 y3 (Int.le_trans z3 (pwn_mono (by omega)))
    have e1 : pwn (1623 + 1 + 1) = pw2 603 := rfl
    rw [e1] at z5
    have := A.fits kl mn k1 l3 m1 n3 y5 (Int.le_trans z5 (pw2_mono (by omega)))
    omega
theorem size_mod {a b : Nat} {x y : Int} (ka : Key a x) (kb : Key b y) (hx : (x.natAbs : Int) ≤ pw2 300) (hy : (y.natAbs : Int) ≤ pw2 300) : ∃ h s H, Key h s ∧ 0 ≤ s ∧ s ≤ pw2 303 ∧ 0 ≤ H ∧ Vk x * Vk x + Vk y * Vk y ≤ H * H ∧ H * 4503599627370496 ≤ (Vk s + 1) * 4503599627370503 + 4503599627370496
    ∧ ∀ w, Calls Try.prog 74 #[.complex .f64 a b] w fun e w' => e = .returned (.float .f64 h) ∧ Below w.heap.size w w' := by
  have p := pw2_bd 300 (by omega)
  have p3 := pw2_bd 303 (by omega)
  obtain ⟨h, s, ks, s0, s1, f, up, c⟩ := size_ok ka kb (by omega) (by omega)
  obtain ⟨H, H0, h1, h2⟩ := up_H (Vk s) (Vk_nn s0)
  refine ⟨h, s, H, ks, s0, ?_, H0, f H h1, h2, c⟩
  have va := Vk_abs hx
  have vb := Vk_abs hy
  have d1 : Vk (pw2 301) = 2 * Vk (pw2 300) := Vk_pw2_succ 300
  have d2 : Vk (pw2 302) = 2 * Vk (pw2 301) := Vk_pw2_succ 301
  have d3 : Vk (pw2 303) = 2 * Vk (pw2 302) := Vk_pw2_succ 302
  have one : 1 ≤ Vk (pw2 300) := by
    have := Vk_le.2 (show (1 : Int) ≤ pw2 300 by omega)
    rw [show Vk 1 = 1 from rfl] at this
    exact this
  have n1 : ((Vk x).natAbs : Int) ≤ Vk (pw2 300) := by omega
  have n2 : ((Vk y).natAbs : Int) ≤ Vk (pw2 300) := by omega
  apply Vk_le.1
  generalize ((Vk x).natAbs : Int) = A1 at *
  generalize ((Vk y).natAbs : Int) = A2 at *
  omega
set_option maxHeartbeats 4000000 in
theorem tight_any (v : Value) (f : Nat → Nat) (w : World) (hl : Lst w v f) : Calls Try.prog 13 #[v] w fun e w' => e = .returned (.bool true) ∧ Below w.heap.size w w' := by
  obtain ⟨F⟩ := ops
  have L := hl.lt
  have cases3 : ∀ a b r : Nat, a < 18446744073709551616 → b < 18446744073709551616 → r < 18446744073709551616 → NN a b r ∨ DNo a b r := fun a b r h1 h2 h3 => by
    rcases disc_cases a b r h1 h2 h3 with h | h | h
    · exact .inl (.inl h)
    · exact .inl (.inr h)
    · exact .inr h
  rcases cases3 _ _ _ (L 0) (L 1) (L 2) with n1 | n1
  · rcases cases3 _ _ _ (L 3) (L 4) (L 5) with n2 | n2
    · obtain ⟨b1, m1, c1⟩ := modest_any (L 0) (L 1) (L 2)
      obtain ⟨b2, m2, c2⟩ := modest_any (L 3) (L 4) (L 5)
      obtain ⟨e1, f1, i1, k1, o1, g1⟩ := ansAdd F n1 n2
      obtain ⟨e2, f2, i2, k2, o2, g2⟩ := ansSub F n1 n2
      obtain ⟨e3, f3, i3, k3, o3, g3⟩ := ansMul F n1 n2
      cases b1
      · exact tight_m1_w v f _ _ _ _ _ _ _ _ _ k1 k2 k3 o1 o2 o3 n1.lone n2.lone c1 g1 g2 g3 w hl
      cases b2
      · exact tight_m2_w v f _ _ _ _ _ _ _ _ _ k1 k2 k3 o1 o2 o3 n1.lone n2.lone c1 c2 g1 g2 g3 w hl
      clear k1 k2 k3 o1 o2 o3 g1 g2 g3 e1 e2 e3 f1 f2 f3 i1 i2 i3
      obtain ⟨x, y, t, D1, hx, hy, ht⟩ := m1 rfl
      obtain ⟨x2, y2, t2, D2, hx2, hy2, ht2⟩ := m2 rfl
      obtain ⟨e1, f1, i1, k1, o1⟩ := discAdd_fin F D1 D2
      obtain ⟨e2, f2, i2, k2, o2⟩ := discSub_fin F D1 D2
      obtain ⟨e3, f3, i3, k3, o3⟩ := discMul_fin F D1 D2
      simp only [Ops.pLo_one, Ops.pHi_one] at o3
      have hx2' : ((-x2).natAbs : Int) ≤ pw2 300 := by rw [Int.natAbs_neg]; exact hx2
      have hy2' : ((-y2).natAbs : Int) ≤ pw2 300 := by rw [Int.natAbs_neg]; exact hy2
      rcases o1 with ⟨_, o1⟩ | ⟨u1, v1, r1, A1, lt1, rfl, rfl, rfl⟩
      · exact absurd o1 (fun o => sum_fits D1.fa D1.fb D2.fa D2.fb D1.r0 ht D2.r0 ht2 hx hy hx2 hy2 o)
      rcases o2 with ⟨_, o2⟩ | ⟨u2, v2, r2, A2, lt2, rfl, rfl, rfl⟩
      · exact absurd o2 (fun o => sum_fits D1.fa D1.fb D2.fa.neg D2.fb.neg D1.r0 ht D2.r0 ht2 hx hy hx2' hy2' o)
      rcases o3 with ⟨_, q1, q2, l1, l2, o3⟩ | ⟨q1, q2, l1, l2, u3, v3, r3, A3, lt3, rfl, rfl, rfl⟩
      · exact absurd o3 (fun o => mul_fits D1.fa D1.fb D2.fa D2.fb D1.r0 ht D2.r0 ht2 hx hy hx2 hy2 l1 l2 o)
      have ft := Fin.of D1.r0 D1.r1
      have ft2 := Fin.of D2.r0 D2.r1
      obtain ⟨pw, p, H1, kp, p0, p1, H10, ab1, b1, cp⟩ := size_mod D1.ka D1.kb hx hy
      obtain ⟨qw, q, H2, kq, q0, q1', H20, ab2, b2, cq⟩ := size_mod D2.ka D2.kb hx2 hy2
      obtain ⟨mx, my, r2w, r3w, r4w, r5w, r6w, m2w, z1, z2, z3, z4, z5, z6, z7, close3⟩ := close_mul D1.fa D1.fb D2.fa D2.fb D1.r0 ht D2.r0 ht2 hx hy hx2 hy2 A3 l1 l2 lt3 D1.ka D1.kb D2.ka D2.kb D1.kr D2.kr kp kq p0 q0 p1 q1' H10 H20 ab1 ab2 b1 b2
      have w303 := pw2_bd 303 (by omega)
      obtain ⟨ax, αx, s1, kax, nax⟩ := own_add D1.ka D2.ka D1.fa.1 D1.fa.2 D2.fa.1 D2.fa.2
      obtain ⟨ay, αy, s2, kay, nay⟩ := own_add D1.kb D2.kb D1.fb.1 D1.fb.2 D2.fb.1 D2.fb.2
      obtain ⟨sx, βx, s3, ksx, nsx⟩ := own_sub D1.ka D2.ka D1.fa D2.fa
      obtain ⟨sy, βy, s4, ksy, nsy⟩ := own_sub D1.kb D2.kb D1.fb D2.fb
      obtain ⟨rr, ρ, s5, krr, nrr⟩ := own_add D1.kr D2.kr ft.1 ft.2 ft2.1 ft2.2
      obtain ⟨mm, μ, s6, kmm, nmm⟩ := own_add kp kq (by omega) (by omega) (by omega) (by omega)
      obtain ⟨a1, a2⟩ := abs_le_H H10 ab1
      obtain ⟨a3, a4⟩ := abs_le_H H20 ab2
      have pq : Vk p + Vk q ≤ Vk (pw2 700) := by
        clear a1 a2 a3 a4 hx hy hx2 hy2 hx2' hy2'
        have i1 := Vk_le.2 p1
        have i2 := Vk_le.2 q1'
        have d := Vk_pw2_succ 303
        have i3 := Vk_le.2 (pw2_mono (show 303 + 1 ≤ 700 by omega))
        omega
      have close1 := close_sum D1.fa D1.fb D2.fa D2.fb D1.r0 ht D2.r0 ht2 hx hy hx2 hy2 A1 lt1 kax nax kay nay krr nrr kmm nmm (Vk_nn p0) (Vk_nn q0) pq a1 a2 a3 a4 b1 b2
      have e1 : Vk x - Vk x2 = Vk x + Vk (-x2) := by rw [Vk_neg]; rfl
      have e2 : Vk y - Vk y2 = Vk y + Vk (-y2) := by rw [Vk_neg]; rfl
      rw [e1] at nsx
      rw [e2] at nsy
      have close2 := close_sum D1.fa D1.fb D2.fa.neg D2.fb.neg D1.r0 ht D2.r0 ht2 hx hy hx2' hy2' A2 lt2 ksx nsx ksy nsy krr nrr kmm nmm (Vk_nn p0) (Vk_nn q0) pq a1 a2 (by rw [Vk_neg, Int.natAbs_neg]; exact a3) (by rw [Vk_neg, Int.natAbs_neg]; exact a4) b1 b2
      clear hx hy hx2 hy2 hx2' hy2' a1 a2 a3 a4
      have t1 := (A1.rad (F.add_pl ft.pl ft2.pl).2 (F.aU_nn ft.pl ft2.pl D1.r0 D2.r0) lt1).2.2.2.2.2
      have t2' := (A2.rad (F.add_pl ft.pl ft2.pl).2 (F.aU_nn ft.pl ft2.pl D1.r0 D2.r0) lt2).2.2.2.2.2
      obtain ⟨pq1, q10, _⟩ := l1.ge D1.fa.pl D1.fb.pl
      obtain ⟨pq2, q20, _⟩ := l2.ge D2.fa.pl D2.fb.pl
      have pm1 := (F.mul_pl pq1 ft2.pl).2
      have pm2 := (F.mul_pl pq2 ft.pl).2
      have pm3 := (F.mul_pl ft.pl ft2.pl).2
      have y1 := (F.mul_pos pq1 ft2.pl q10 D2.r0).2
      have y2' := (F.mul_pos pq2 ft.pl q20 D1.r0).2
      have y3 := (F.mul_pos ft.pl ft2.pl D1.r0 D2.r0).2
      have pa := (F.add_pl pm1 pm2).2
      have y4 := F.aU_nn pm1 pm2 y1 y2'
      have t3 := (A3.rad (F.add_pl pa pm3).2 (F.aU_nn pa pm3 y4 y3) lt3).2.2.2.2.2
      exact tight_ok_w v f _ _ _ _ _ _ _ _ _ k1 k2 k3 (form_fin A1.fu A1.fv t1 lt1) (form_fin A2.fu A2.fv t2' lt2) (form_fin A3.fu A3.fv t3 lt3) n1.lone n2.lone c1 c2 pw qw ax ay sx sy mx my rr mm r2w r3w r4w r5w r6w m2w cp cq (csum_add s1 s2) (csum_sub s3 s4) z1 s5 s6 z2 z3 z4 z5 z6 z7 close1 close2 close3 w hl
    · obtain ⟨e1, f1, i1, q1, k1⟩ := discAdd_no (L 0) (L 1) (L 3) (L 4) (L 2) (L 5) (.inr n2)
      obtain ⟨e2, f2, i2, q2, k2⟩ := discSub_no (L 0) (L 1) (L 3) (L 4) (L 2) (L 5) (.inr n2)
      obtain ⟨e3, f3, i3, q3, k3⟩ := discMul_no (L 0) (L 1) (L 3) (L 4) (L 2) (L 5) (.inr n2)
      exact tight_l2_w v f _ _ _ _ _ _ _ _ _ k1 k2 k3 (form_nod q1) (form_nod q2) (form_nod q3) n1.lone (rlone_no (L 3) (L 4) n2) (nod_mone q1) (nod_mone q2) (nod_mone q3) w hl
  · obtain ⟨e1, f1, i1, q1, k1⟩ := discAdd_no (L 0) (L 1) (L 3) (L 4) (L 2) (L 5) (.inl n1)
    obtain ⟨e2, f2, i2, q2, k2⟩ := discSub_no (L 0) (L 1) (L 3) (L 4) (L 2) (L 5) (.inl n1)
    obtain ⟨e3, f3, i3, q3, k3⟩ := discMul_no (L 0) (L 1) (L 3) (L 4) (L 2) (L 5) (.inl n1)
    obtain ⟨bb, cb⟩ : ∃ bb : Bool, ∀ w, Calls Try.prog 72 #[.agg #[.complex .f64 (f 3) (f 4), .float .f64 (f 5)]] w fun e w' => e = .returned (.bool bb) ∧ Below w.heap.size w w' := by
      rcases cases3 _ _ _ (L 3) (L 4) (L 5) with n2 | n2
      · exact ⟨_, n2.lone⟩
      · exact ⟨_, rlone_no (L 3) (L 4) n2⟩
    exact tight_l1_w v f _ _ _ _ _ _ _ _ _ k1 k2 k3 (form_nod q1) (form_nod q2) (form_nod q3) bb (rlone_no (L 0) (L 1) n1) cb (nod_mone q1) (nod_mone q2) (nod_mone q3) w hl
end Go.Proofs.Ytacnclofbnafiaa
