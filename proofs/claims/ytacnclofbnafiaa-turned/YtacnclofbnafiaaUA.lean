import Derived.Test.YtacnclofbnafiaaZR
import Derived.Test.YtacnclofbnafiaaU2
import Derived.Test.YtacnclofbnafiaaX7b
import Derived.Test.YtacnclofbnafiaaEA
import Derived.Test.YtacnclofbnafiaaU3
namespace Go.Proofs.Ytacnclofbnafiaa
open Go.RowKit Fl

theorem pick_eq (x y : Nat) : Extern.MathDim.pick "math.archMax" false .gt #[.float .f64 x, .float .f64 y] = pure (.float .f64 (if (Ieee.double.read x == .infinity false || Ieee.double.read y == .infinity false) = true then Ieee.double.write (.infinity false) else if ((Ieee.double.read x).isNaN || (Ieee.double.read y).isNaN) = true then 0x7FF8000000000001 else if ((Ieee.double.read x).isZero && (Ieee.double.read y).isZero) = true then (if ((Ieee.double.read x).neg == false) = true then x else y) else if ((Ieee.double.read x).order (Ieee.double.read y) == some .gt) = true then x else y)) := rfl
theorem Max_key {x y : Nat} {k l : Int} (hx : Key x k) (hy : Key y l) (k0 : 0 ≤ k) (l0 : 0 ≤ l) : ∃ z, Key z (max k l) ∧ ∀ w, Calls Try.prog 80 #[.float .f64 x, .float .f64 y] w fun e w' => e = .returned (.float .f64 z) ∧ w' = w := by
  have hI := INF_pos
  have ho := hx.order hy
  have bx := hx.pl
  have hy' := hy.pl
  unfold Pl at bx hy'
  by_cases c : k = INF ∨ l = INF
  · refine ⟨B INF, ?_, Max_w ?_⟩
    · rw [show max k l = (INF : Int) by omega]
      exact Key.at pl_inf
    · rw [pick_eq]
      have t : (Ieee.double.read x == .infinity false || Ieee.double.read y == .infinity false) = true := by
        rcases c with c | c
        · obtain ⟨s, r, rfl, hr, e⟩ := hx
          have s0 : s = false := by
            cases s
            · rfl
            · exfalso; rw [ix_true] at e; omega
          subst s0
          rw [ix_false] at e
          have r0 : r = INF := by omega
          subst r0
          rw [read_inf]; simp
        · obtain ⟨s, r, rfl, hr, e⟩ := hy
          have s0 : s = false := by
            cases s
            · rfl
            · exfalso; rw [ix_true] at e; omega
          subst s0
          rw [ix_false] at e
          have r0 : r = INF := by omega
          subst r0
          rw [read_inf]; simp
      rw [if_pos t, B_inf]
      rfl
  · obtain ⟨s, r, rfl, hr, e1⟩ := hx
    obtain ⟨t, q, rfl, hq, e2⟩ := hy
    have r1 : r < INF := by
      cases s
      · rw [ix_false] at e1; omega
      · rw [ix_true] at e1; omega
    have q1 : q < INF := by
      cases t
      · rw [ix_false] at e2; omega
      · rw [ix_true] at e2; omega
    have K1 : Key (W s r) k := ⟨s, r, rfl, hr, e1⟩
    have K2 : Key (W t q) l := ⟨t, q, rfl, hq, e2⟩
    have ho' : (Ieee.double.read (W s r)).order (Ieee.double.read (W t q)) = some (compare k l) := ho
    have z1 : (Ieee.double.read (W s r)).isZero = true → k = 0 := fun h => by
      rw [read_fin s r r1] at h
      have g : mg r = 0 := by
        cases hm : mg r with
        | zero => rfl
        | succ n => rw [hm] at h; exact (Bool.false_ne_true h).elim
      have : r = 0 := by unfold mg at g; split at g <;> omega
      subst this
      rw [← e1]; cases s <;> rfl
    have z2 : (Ieee.double.read (W t q)).isZero = true → l = 0 := fun h => by
      rw [read_fin t q q1] at h
      have g : mg q = 0 := by
        cases hm : mg q with
        | zero => rfl
        | succ n => rw [hm] at h; exact (Bool.false_ne_true h).elim
      have : q = 0 := by unfold mg at g; split at g <;> omega
      subst this
      rw [← e2]; cases t <;> rfl
    have n1 : (Ieee.double.read (W s r) == .infinity false || Ieee.double.read (W t q) == .infinity false) = false := by
      rw [read_fin s r r1, read_fin t q q1]; simp
    have n2 : ((Ieee.double.read (W s r)).isNaN || (Ieee.double.read (W t q)).isNaN) = false := by
      rw [read_fin s r r1, read_fin t q q1]; rfl
    have e := pick_eq (W s r) (W t q)
    rw [n1, n2, ho', if_neg (by simp), if_neg (by simp)] at e
    by_cases zz : ((Ieee.double.read (W s r)).isZero && (Ieee.double.read (W t q)).isZero) = true
    · rw [if_pos zz] at e
      rw [Bool.and_eq_true] at zz
      have k00 := z1 zz.1
      have l00 := z2 zz.2
      refine ⟨_, ?_, Max_w e⟩
      subst k00; subst l00
      split
      · exact K1
      · exact K2
    · rw [if_neg zz] at e
      refine ⟨_, ?_, Max_w e⟩
      by_cases g : l < k
      · rw [Int.compare_eq_gt.2 g, if_pos (by rfl), show max k l = k by omega]
        exact K1
      · rw [if_neg (fun h => by
          have h' : compare k l = .gt := by simpa using h
          exact g (Int.compare_eq_gt.1 h')), show max k l = l by omega]
        exact K2
theorem side_lin {δ G1 G E1 E x o μ T : Int} (hT : 1267650600228229401496703205376 ≤ T) (g : G * 4503599627370496 ≤ 2 * E1 + 3 * 4503599627370496) (h1 : δ * 1 * 4503599627370496 ≤ G1 * 4503599627370497 + 4503599627370496 * 1) (h2 : G1 ≤ G) (e1 : E1 ≤ E) (e2 : E = x + o) (h3 : (x + o) * 4503599627370496 ≤ μ * 1 * 4503599627370497 + 4503599627370496 * 1) (E0 : 0 ≤ x) (E2 : 0 ≤ o) :
    δ * 17592186044416 ≤ 0 * 17592186044432 + μ * 16 + 17592186044416 * T := by
  omega
theorem nab3 {v s D P : Int} (h1 : D ≤ s) (h2 : s ≤ P) (h3 : v = D ∨ v = P) : ((v - s).natAbs : Int) ≤ P - D := by omega
theorem Vabs (z : Int) : Vk (z.natAbs : Int) = ((Vk z).natAbs : Int) := by
  rcases Int.le_total 0 z with g | g
  · have := Vk_nn g
    rw [show (z.natAbs : Int) = z by omega]; omega
  · have := Vk_le.2 g
    rw [Vk_zero] at this
    rw [show (z.natAbs : Int) = -z by omega, Vk_neg]; omega
-- a bound of the box about a modest disc is near enough
set_option maxHeartbeats 1000000 in
theorem side_ok {F : Ops} {x o V : Int} (fx : Fin x) (fo : Fin o) (hx : (x.natAbs : Int) ≤ pw2 300) (ho : (o.natAbs : Int) ≤ pw2 300) (hv : V = F.aD x o ∨ V = F.aU x o) {p q : Nat} (kp : Key p x) (kq : Key q o) :
    ∀ w, Calls Try.prog 82 #[.float .f64 (B V), .float .f64 p, .float .f64 q] w fun e w' => e = .returned (.bool true) ∧ Below w.heap.size w w' := by
  have hI := INF_pos
  have w300 := pw2_bd 300 (by omega)
  have w301 := pw2_bd 301 (by omega)
  have w302 := pw2_bd 302 (by omega)
  have e301 : pw2 (300 + 1) = pw2 301 := rfl
  have d301 : Vk (pw2 301) = 2 * Vk (pw2 300) := Vk_pw2_succ 300
  have d302 : Vk (pw2 302) = 2 * Vk (pw2 301) := Vk_pw2_succ 301
  obtain ⟨i1, i2, i3, i4, i5⟩ := F.a_within fx fo hx ho (by omega)
  rw [e301] at i1 i3
  obtain ⟨g1, g2, g3⟩ := rk_gap ((F.add fx.pl fo.pl).num fx.1 fx.2 fo.1 fo.2) i4 i5
  obtain ⟨s, σ, e1, ks, ns⟩ := own_add kp kq fx.1 fx.2 fo.1 fo.2
  have n1 : F.aD x o ≤ σ := (ns _ (by omega) (by omega)).1 (by omega)
  have n2 : σ ≤ F.aU x o := (ns _ (by omega) (by omega)).2 (by omega)
  have fs : Fin σ := by unfold Fin; clear hx ho; omega
  have fV : Fin V := by rcases hv with h | h <;> subst h <;> assumption
  have V1 : -pw2 301 ≤ V ∧ V ≤ pw2 301 := by clear hx ho; omega
  obtain ⟨d, δ, e2, kd, nd⟩ := own_sub (Key.at fV.pl) ks fV fs
  obtain ⟨d1, kd1, a1⟩ := kd.abs
  obtain ⟨p1, kp1, a2⟩ := kp.abs
  obtain ⟨q1, kq1, a3⟩ := kq.abs
  have va := Vabs x
  have vo := Vabs o
  have vd := Vabs δ
  have b1 := Vk_le.2 hx
  have b2 := Vk_le.2 ho
  have z1 : (0 : Int) ≤ (x.natAbs : Int) := Int.natCast_nonneg _
  have z2 : (0 : Int) ≤ (o.natAbs : Int) := Int.natCast_nonneg _
  obtain ⟨m, μ, e3, km, nm⟩ := own_add kp1 kq1 (by omega) (by omega) (by omega) (by omega)
  have y1 := Vk_nn z1
  have y2 := Vk_nn z2
  have u1 := Vk_le.2 n1
  have u2 := Vk_le.2 n2
  have G1 := nab3 (v := Vk V) u1 u2 (by rcases hv with h | h <;> subst h <;> simp)
  have X1 := nd.abs (by omega) kd.bd.1 kd.bd.2
  have w1 := Vk_le.2 V1.1
  have w2 := Vk_le.2 V1.2
  have w3 := Vk_le.2 i1
  have w4 := Vk_le.2 i3
  rw [Vk_neg] at w1 w3
  have E1 := nab (Vk x) (Vk o)
  rw [← va, ← vo] at E1
  rw [← vd] at X1
  clear hx ho va vo vd
  have μ0 := nm.nn (by omega)
  have μ1 : μ ≤ pw2 301 := nm.fin _ (by omega) (by omega) (by omega)
  have cm := nm.lo (by omega) (by omega) (by omega)
  have L := side_lin (T := (T8 : Int)) T8_big g1 X1 G1 E1 rfl cm y1 y2
  have B2 := bound_ok kd1 Key.zero km (Int.le_refl _) (Int.le_of_lt (pw2_bd 800 (by decide)).1) μ0 (Int.le_trans μ1 (pw2_mono (by decide))) (by rw [Vk_zero]; exact L)
  exact side_w _ _ _ _ _ _ _ _ _ e1 e2 a1 a2 a3 e3 B2
/-- Whether a number is in a box. -/
theorem rinBox_any {p q X1 X2 X3 X4 : Nat} {P Q k l m n : Int} (kp : Key p P) (kq : Key q Q) (h1 : Key X1 k) (h2 : Key X2 l) (h3 : Key X3 m) (h4 : Key X4 n) :
    ∃ b : Bool, (k ≤ P → P ≤ l → m ≤ Q → Q ≤ n → b = true) ∧ ∀ w, Calls Try.prog 77 #[.float .f64 p, .float .f64 q, .agg #[.float .f64 X1, .float .f64 X2, .float .f64 X3, .float .f64 X4]] w fun e w' => e = .returned (.bool b) ∧ Below w.heap.size w w' := by
  have t0 := leb h1 kp
  have t1 := leb kp h2
  have t2 := leb h3 kq
  have t3 := leb kq h4
  by_cases c0 : k ≤ P
  · rw [decide_eq_true c0] at t0
    by_cases c1 : P ≤ l
    · rw [decide_eq_true c1] at t1
      by_cases c2 : m ≤ Q
      · rw [decide_eq_true c2] at t2
        by_cases c3 : Q ≤ n
        · rw [decide_eq_true c3] at t3
          exact ⟨true, fun _ _ _ _ => rfl, inBox_4_w _ _ _ _ _ _ t0 t1 t2 t3⟩
        · rw [decide_eq_false c3] at t3
          exact ⟨false, fun _ _ _ h => absurd h c3, inBox_3_w _ _ _ _ _ _ t0 t1 t2 t3⟩
      · rw [decide_eq_false c2] at t2
        exact ⟨false, fun _ _ h _ => absurd h c2, inBox_2_w _ _ _ _ _ _ t0 t1 t2⟩
    · rw [decide_eq_false c1] at t1
      exact ⟨false, fun _ h _ _ => absurd h c1, inBox_1_w _ _ _ _ _ _ t0 t1⟩
  · rw [decide_eq_false c0] at t0
    exact ⟨false, fun h _ _ _ => absurd h c0, inBox_0_w _ _ _ _ _ _ t0⟩
end Go.Proofs.Ytacnclofbnafiaa

namespace Go.Proofs.Ytacnclofbnafiaa
open Go.RowKit Fl

theorem below_of {f : FuncId} {a : Array Value} {v : Value} (h : ∀ w, Calls Try.prog f a w fun e w' => e = .returned v ∧ w' = w) : ∀ w, Calls Try.prog f a w fun e w' => e = .returned v ∧ Below w.heap.size w w' :=
  fun w => (h w).mono fun _ _ ⟨e, q⟩ => ⟨e, q ▸ Below.refl _ _⟩
/-- DOWN and UP go about what is exact. -/
theorem Ops.dn_le (F : Ops) {x o P : Int} (fx : Fin x) (fo : Fin o) (fP : Fin P) (h : Vk x + Vk o ≤ Vk P) : F.aD x o ≤ P := by
  have d := ((F.add fx.pl fo.pl).num fx.1 fx.2 fo.1 fo.2).dn
  by_cases c : F.aD x o = -(INF : Int)
  · have := fP.1; omega
  · have := (d.ok _ (by have := d.lo; omega) d.hi).2 (Int.le_refl _)
    unfold Ep at this
    exact Vk_le.1 (by omega)
theorem Ops.le_up (F : Ops) {x o P : Int} (fx : Fin x) (fo : Fin o) (fP : Fin P) (h : Vk P ≤ Vk x + Vk o) : P ≤ F.aU x o := by
  have d := ((F.add fx.pl fo.pl).num fx.1 fx.2 fo.1 fo.2).up
  by_cases c : F.aU x o = INF
  · have := fP.2; omega
  · have := (d.ok _ d.lo (by have := d.hi; omega)).2 (Int.le_refl _)
    unfold Ep at this
    exact Vk_le.1 (by omega)
/-- What Turned asks of any disc. -/
theorem turned_disc (F : Ops) {x xi : Nat} {P Q : Int} (kx : Key x P) (fP : Fin P) (kxi : Key xi Q) (fQ : Fin Q) (a b r : Nat) (ha : a < 18446744073709551616) (hb : b < 18446744073709551616) (hr : r < 18446744073709551616) :
    ∃ (v1 v2 vm : Bool) (e1 e2 e3 e4 nr : Nat), (∀ w, Calls Try.prog 66 #[.float .f64 x, .float .f64 xi, .agg #[.complex .f64 a b, .float .f64 r]] w fun e w' => e = .returned (.bool v1) ∧ Below w.heap.size w w')
      ∧ (∀ w, Calls Try.prog 76 #[.agg #[.complex .f64 a b, .float .f64 r]] w fun e w' => e = .returned (.agg #[.float .f64 e1, .float .f64 e2, .float .f64 e3, .float .f64 e4]) ∧ Below w.heap.size w w')
      ∧ (∀ w, Calls Try.prog 77 #[.float .f64 x, .float .f64 xi, .agg #[.float .f64 e1, .float .f64 e2, .float .f64 e3, .float .f64 e4]] w fun e w' => e = .returned (.bool v2) ∧ Below w.heap.size w w')
      ∧ (v1 = true → v2 = true) ∧ (∀ w, Calls Try.prog 73 #[.agg #[.complex .f64 a b, .float .f64 r]] w fun e w' => e = .returned (.bool vm) ∧ Below w.heap.size w w')
      ∧ (v1 = true → vm = true → (Op.unary .neg (.float .f64 r) = pure (.float .f64 nr)) ∧ (∀ w, Calls Try.prog 82 #[.float .f64 e1, .float .f64 a, .float .f64 nr] w fun e w' => e = .returned (.bool true) ∧ Below w.heap.size w w') ∧ (∀ w, Calls Try.prog 82 #[.float .f64 e2, .float .f64 a, .float .f64 r] w fun e w' => e = .returned (.bool true) ∧ Below w.heap.size w w')
        ∧ (∀ w, Calls Try.prog 82 #[.float .f64 e3, .float .f64 b, .float .f64 nr] w fun e w' => e = .returned (.bool true) ∧ Below w.heap.size w w') ∧ (∀ w, Calls Try.prog 82 #[.float .f64 e4, .float .f64 b, .float .f64 r] w fun e w' => e = .returned (.bool true) ∧ Below w.heap.size w w')) := by
  have hI := INF_pos
  obtain ⟨vm, hm, cm⟩ := modest_any ha hb hr
  rcases disc_cases a b r ha hb hr with ⟨X, Y, t, D⟩ | D | D
  · have ft := Fin.of D.r0 D.r1
    obtain ⟨v1, h1, c1⟩ := rinDisc_fin kx fP kxi fQ D
    obtain ⟨p1, p2⟩ := F.add_pl D.fa.pl ft.neg.pl
    obtain ⟨p3, p4⟩ := F.add_pl D.fa.pl ft.pl
    obtain ⟨p5, p6⟩ := F.add_pl D.fb.pl ft.neg.pl
    obtain ⟨p7, p8⟩ := F.add_pl D.fb.pl ft.pl
    obtain ⟨v2, h2, c2⟩ := rinBox_any kx kxi (Key.at p1) (Key.at p4) (Key.at p5) (Key.at p8)
    obtain ⟨nr, n1, n2⟩ := D.kr.neg
    refine ⟨v1, v2, vm, _, _, _, _, nr, c1, toBox_fin F D, c2, fun e => ?_, cm, fun e g => ?_⟩
    · have i := h1.1 e
      obtain ⟨a1, a2⟩ := abs_le_H (Vk_nn D.r0) i
      exact h2 (F.dn_le D.fa ft.neg fP (by rw [Vk_neg]; omega)) (F.le_up D.fa ft fP (by omega)) (F.dn_le D.fb ft.neg fQ (by rw [Vk_neg]; omega)) (F.le_up D.fb ft fQ (by omega))
    · obtain ⟨X', Y', t', D', m1, m2, m3⟩ := hm g
      have u1 := D.ka.unique D'.ka
      have u2 := D.kb.unique D'.kb
      have u3 := D.kr.unique D'.kr
      subst u1; subst u2; subst u3
      have r0 := D.r0
      have nt : ((-t).natAbs : Int) ≤ pw2 300 := by omega
      have pt : (t.natAbs : Int) ≤ pw2 300 := by omega
      exact ⟨n1, side_ok D.fa ft.neg m1 nt (.inl rfl) D.ka n2, side_ok D.fa ft m1 pt (.inr rfl) D.ka D.kr, side_ok D.fb ft.neg m2 nt (.inl rfl) D.kb n2, side_ok D.fb ft m2 pt (.inr rfl) D.kb D.kr⟩
  · obtain ⟨v2, h2, c2⟩ := rinBox_any kx kxi (Key.at pl_ninf) (Key.at pl_inf) (Key.at pl_ninf) (Key.at pl_inf)
    refine ⟨true, v2, vm, _, _, _, _, 0, rinDisc_all D, toBox_all D, c2, fun _ => ?_, cm, fun _ g => ?_⟩
    · have := fP.1; have := fP.2; have := fQ.1; have := fQ.2
      exact h2 (by omega) (by omega) (by omega) (by omega)
    · obtain ⟨_, _, t', D', _⟩ := hm g
      have := D.unique D'.kr
      have := D'.r1
      omega
  · obtain ⟨v2, h2, c2⟩ := rinBox_any kx kxi (Key.at pl_inf) (Key.at pl_ninf) (Key.at pl_inf) (Key.at pl_ninf)
    exact ⟨false, v2, vm, _, _, _, _, 0, rinDisc_no ha hb D, toBox_no ha hb D, c2, fun e => by simp at e, cm, fun e => by simp at e⟩
set_option maxHeartbeats 4000000 in
theorem turned_any (p0 pi0 : Int) (_ : (Lit.int .i64 p0).wf = true) (_ : (Lit.int .i64 pi0).wf = true) (v : Value) (f : Nat → Nat) (w : World) (hl : Lst w v f) :
    Calls Try.prog 14 #[.int .i64 p0, .int .i64 pi0, v] w fun e w' => e = .returned (.bool true) ∧ Below w.heap.size w w' := by
  obtain ⟨F⟩ := ops
  have hI := INF_pos
  have L := hl.lt
  have w1 := whole_any p0
  have w2 := whole_any pi0
  have b1 := whole_bd p0
  have b2 := whole_bd pi0
  generalize p0.tmod 1048577 = p at *
  generalize pi0.tmod 1048577 = pi at *
  obtain ⟨x, P, ex, nx⟩ := num_f p (by omega)
  obtain ⟨xi, Q, exi, nxi⟩ := num_f pi (by omega)
  have fP : Fin P := ⟨nx.lo, nx.hi⟩
  have fQ : Fin Q := ⟨nxi.lo, nxi.hi⟩
  have TD := turned_disc F nx.key fP nxi.key fQ
  obtain ⟨y1, y2, k, l, I1, kP, Pl', r1⟩ := around_any nx.key fP.1 fP.2 (L 3) (L 4)
  obtain ⟨y3, y4, m, n, I2, mQ, Qn, r2⟩ := around_any nxi.key fQ.1 fQ.2 (L 5) (L 6)
  obtain ⟨d1, d2, d3, td, q⟩ := toDisc_some F I1 I2
  obtain ⟨mm, kmm, lx⟩ := ldexp300
  obtain ⟨z1, kz1, a1⟩ := I1.x.abs
  obtain ⟨z2, kz2, a2⟩ := I1.y.abs
  obtain ⟨z3, kz3, a3⟩ := I2.x.abs
  obtain ⟨z4, kz4, a4⟩ := I2.y.abs
  obtain ⟨g1, kg1, x1⟩ := Max_key kz1 kz2 (Int.natCast_nonneg _) (Int.natCast_nonneg _)
  obtain ⟨g2, kg2, x2⟩ := Max_key kz3 kz4 (Int.natCast_nonneg _) (Int.natCast_nonneg _)
  obtain ⟨far, kf, x3⟩ := Max_key kg1 kg2 (by omega) (by omega)
  have lf := leb kf kmm
  have is := isInf1_key kf
  have w300 := pw2_bd 300 (by omega)
  have H : (∀ w, Calls Try.prog 66 #[.float .f64 x, .float .f64 xi, .agg #[.complex .f64 d1 d2, .float .f64 d3]] w fun e w' => e = .returned (.bool true) ∧ Below w.heap.size w w') ∧ (∀ w, Calls Try.prog 70 #[.agg #[.complex .f64 d1 d2, .float .f64 d3]] w fun e w' => e = .returned (.bool true) ∧ Below w.heap.size w w') := by
    rcases q with ⟨q, _⟩ | ⟨u, v, c, A, lt, rfl, rfl, rfl⟩
    · exact holds_all q
    · obtain ⟨cI, _, c0, _, up, z⟩ := A.rad pl_zero (Int.le_refl _) lt
      rw [Vk_zero] at up
      have s := A.sound cI (C := 1) (E1 := Vk P) (E2 := Vk Q) (by omega) (by have := Vk_le.2 kP; omega) (by have := Vk_le.2 Pl'; omega) (by have := Vk_le.2 mQ; omega) (by have := Vk_le.2 Qn; omega)
      rw [Int.one_mul, Int.one_mul, Int.one_mul] at s
      refine holds_fin A.fu A.fv z lt rfl rfl rfl nx nxi ?_
      rw [← nx.val, ← nxi.val]
      exact Int.le_trans s (sq_up c0 (by omega))
  have kl := I1.le
  have mn := I2.le
  by_cases c1 : max (max (k.natAbs : Int) l.natAbs) (max (m.natAbs : Int) n.natAbs) ≤ pw2 300
  · rw [decide_eq_true c1] at lf
    rw [decide_eq_false (by omega)] at is
    have b_k : (k.natAbs : Int) ≤ pw2 300 := by omega
    have b_l : (l.natAbs : Int) ≤ pw2 300 := by omega
    have b_m : (m.natAbs : Int) ≤ pw2 300 := by omega
    have b_n : (n.natAbs : Int) ≤ pw2 300 := by omega
    have fk : Fin k := by unfold Fin; omega
    have fl : Fin l := by unfold Fin; omega
    have fm : Fin m := by unfold Fin; omega
    have fn : Fin n := by unfold Fin; omega
    rcases q with ⟨_, q⟩ | ⟨u, v', c, A, lt, rfl, rfl, rfl⟩
    · exfalso
      rcases q with q | ⟨u, v', c, A, e⟩
      · exact q ⟨fk, fl, fm, fn⟩
      · have p601 := pw2_mono (show 300 ≤ 601 by omega)
        have := A.fits (t := 0) kl mn (by omega) (by omega) (by omega) (by omega) (Int.le_refl _) (Int.le_of_lt (pw2_bd 609 (by omega)).1)
        omega
    · obtain ⟨p1, q1, j1, p2, q2, j2, rr, ss, e1, e2, e3, e4, e5, e6, cr, cs, bo⟩ := toDisc_tight A kl mn b_k b_l b_m b_n I1.x I1.y I2.x I2.y kg1 kg2 rfl rfl
      exact turned_s_w v f p0 pi0 p pi x xi y1 y2 y3 y4 _ _ _ mm z1 z2 z3 z4 g1 g2 far w1 w2 b1 b2 ex exi TD r1 r2 td H.1 H.2 lx (below_of a1) (below_of a2) (below_of a3) (below_of a4) (below_of x1) (below_of x2) (below_of x3) lf p1 q1 j1 p2 q2 j2 rr ss e1 e2 e3 e4 e5 e6 cr cs bo is L w hl
  · rw [decide_eq_false c1] at lf
    by_cases c2 : max (max (k.natAbs : Int) l.natAbs) (max (m.natAbs : Int) n.natAbs) = INF
    · rw [decide_eq_true c2] at is
      have is2 : ∀ w, Calls Try.prog 29 #[.float .f64 d3, .int .i64 1] w fun e w' => e = .returned (.bool true) ∧ w' = w := by
        rcases q with ⟨q, _⟩ | ⟨u, v', c, A, lt, rfl, rfl, rfl⟩
        · obtain ⟨_, _, rfl⟩ := q
          have i2 := isInf1_key (Key.at pl_inf)
          rw [decide_eq_true rfl] at i2
          exact i2
        · exfalso
          have f1 := A.fk; have f2 := A.fl; have f3 := A.fm; have f4 := A.fn
          unfold Fin at f1 f2 f3 f4
          omega
      exact turned_i_w v f p0 pi0 p pi x xi y1 y2 y3 y4 _ _ _ mm z1 z2 z3 z4 g1 g2 far w1 w2 b1 b2 ex exi TD r1 r2 td H.1 H.2 lx (below_of a1) (below_of a2) (below_of a3) (below_of a4) (below_of x1) (below_of x2) (below_of x3) lf is is2 L w hl
    · rw [decide_eq_false c2] at is
      exact turned_m_w v f p0 pi0 p pi x xi y1 y2 y3 y4 _ _ _ mm z1 z2 z3 z4 g1 g2 far w1 w2 b1 b2 ex exi TD r1 r2 td H.1 H.2 lx (below_of a1) (below_of a2) (below_of a3) (below_of a4) (below_of x1) (below_of x2) (below_of x3) lf is L w hl
end Go.Proofs.Ytacnclofbnafiaa
