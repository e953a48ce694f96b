import Derived.Test.YtacnclofbnafiaaX7a
import Derived.Test.YtacnclofbnafiaaX6
import Derived.Test.YtacnclofbnafiaaE2
namespace Go.Proofs.Ytacnclofbnafiaa
open Go.RowKit Fl

theorem whole_any (k : Int) (w : World) : Calls Try.prog 50 #[.int .i64 k] w fun e w' => e = .returned (.int .i64 (k.tmod 1048577)) ∧ w' = w := by
  go_enter Try.func50, Try.ntmps50
  go_wp2
  go_ret
  exact ⟨rfl, rfl⟩
theorem whole_bd (k : Int) : -1048576 ≤ k.tmod 1048577 ∧ k.tmod 1048577 ≤ 1048576 := by
  have := Int.tmod_lt_of_pos k (show (0 : Int) < 1048577 by omega)
  have := Int.lt_tmod_of_pos k (show (0 : Int) < 1048577 by omega)
  omega
/-- A number is in an answer, and the answer has the form. -/
def Holds (e f i s si : Nat) : Prop := (∀ w, Calls Try.prog 66 #[.float .f64 s, .float .f64 si, .agg #[.complex .f64 e f, .float .f64 i]] w fun e w' => e = .returned (.bool true) ∧ Below w.heap.size w w') ∧ ∀ w, Calls Try.prog 70 #[.agg #[.complex .f64 e f, .float .f64 i]] w fun e w' => e = .returned (.bool true) ∧ Below w.heap.size w w'
theorem holds_all {e f i s si : Nat} (h : AllD e f i) : Holds e f i s si := by
  refine ⟨?_, form_alld h⟩
  obtain ⟨rfl, rfl, rfl⟩ := h
  exact rinDisc_all (Key.at pl_inf)
theorem holds_fin {e f i s si : Nat} {u v t n m k l : Int} (fu : Fin u) (fv : Fin v) (t0 : 0 ≤ t) (t1 : t < INF) (he : e = B u) (hf : f = B v) (hi : i = B t) (hs : Num s n k) (hsi : Num si m l)
    (h : (n * (U : Int) - Vk u) * (n * (U : Int) - Vk u) + (m * (U : Int) - Vk v) * (m * (U : Int) - Vk v) ≤ Vk t * Vk t) : Holds e f i s si := by
  subst he; subst hf; subst hi
  refine ⟨?_, form_fin fu fv t0 t1⟩
  obtain ⟨b, hb, c⟩ := rinDisc_fin hs.key ⟨hs.lo, hs.hi⟩ hsi.key ⟨hsi.lo, hsi.hi⟩ (dfin_B fu fv t0 t1)
  have : b = true := hb.2 (by unfold inD; rw [hs.val, hsi.val]; exact h)
  subst this
  exact c
theorem num_f (n : Int) (h : n.natAbs ≤ 9007199254740992) : ∃ x m, floatOfInt .f64 n = x ∧ Num x n m := by
  obtain ⟨m, h⟩ := num_int n h
  exact ⟨_, m, rfl, h⟩
theorem mul_bd {p q : Int} (hp : -1048576 ≤ p ∧ p ≤ 1048576) (hq : -1048576 ≤ q ∧ q ≤ 1048576) : -1099511627776 ≤ p * q ∧ p * q ≤ 1099511627776 := by
  have h : (p * q).natAbs ≤ 1048576 * 1048576 := by rw [Int.natAbs_mul]; exact Nat.mul_le_mul (by omega) (by omega)
  omega
theorem wrap_id {x : Int} (h : -1099511627776 ≤ x ∧ x ≤ 1099511627776) : wrap64 x = x := by
  unfold wrap64; omega
/-- Is a number in a disc? -/
theorem rinDisc_any {p q a b r : Nat} {P Q : Int} (kp : Key p P) (fp : Fin P) (kq : Key q Q) (fq : Fin Q) (ha : a < 18446744073709551616) (hb : b < 18446744073709551616) (hr : r < 18446744073709551616) :
    ∃ v : Bool, (v = true → (Key r INF ∨ ∃ x y t, DFin a b r x y t ∧ inD P Q x y t)) ∧ ∀ w, Calls Try.prog 66 #[.float .f64 p, .float .f64 q, .agg #[.complex .f64 a b, .float .f64 r]] w fun e w' => e = .returned (.bool v) ∧ Below w.heap.size w w' := by
  rcases disc_cases a b r ha hb hr with ⟨x, y, t, h⟩ | h | h
  · obtain ⟨v, h1, h2⟩ := rinDisc_fin kp fp kq fq h
    exact ⟨v, fun e => .inr ⟨x, y, t, h, h1.1 e⟩, h2⟩
  · exact ⟨true, fun _ => .inl h, rinDisc_all h⟩
  · exact ⟨false, fun e => by simp at e, rinDisc_no ha hb h⟩
theorem discsHold_any (p0 pi0 q0 qi0 : Int) (_ : (Lit.int .i64 p0).wf = true) (_ : (Lit.int .i64 pi0).wf = true) (_ : (Lit.int .i64 q0).wf = true) (_ : (Lit.int .i64 qi0).wf = true) (v : Value) (f : Nat → Nat) (w : World) (hl : Lst w v f) :
    Calls Try.prog 12 #[.int .i64 p0, .int .i64 pi0, .int .i64 q0, .int .i64 qi0, v] w fun e w' => e = .returned (.bool true) ∧ Below w.heap.size w w' := by
  obtain ⟨F⟩ := ops
  have w1 := whole_any p0
  have w2 := whole_any pi0
  have w3 := whole_any q0
  have w4 := whole_any qi0
  have b1 := whole_bd p0
  have b2 := whole_bd pi0
  have b3 := whole_bd q0
  have b4 := whole_bd qi0
  generalize p0.tmod 1048577 = p at *
  generalize pi0.tmod 1048577 = pi at *
  generalize q0.tmod 1048577 = q at *
  generalize qi0.tmod 1048577 = qi at *
  have m1 := mul_bd b1 b3
  have m2 := mul_bd b2 b4
  have m3 := mul_bd b1 b4
  have m4 := mul_bd b2 b3
  obtain ⟨x, kx, ex, nx⟩ := num_f p (by omega)
  obtain ⟨xi, kxi, exi, nxi⟩ := num_f pi (by omega)
  obtain ⟨y, ky, ey, ny⟩ := num_f q (by omega)
  obtain ⟨yi, kyi, eyi, nyi⟩ := num_f qi (by omega)
  obtain ⟨s, ks, es, ns⟩ := num_f (p + q) (by omega)
  obtain ⟨si, ksi, esi, nsi⟩ := num_f (pi + qi) (by omega)
  obtain ⟨d, kd, ed, nd⟩ := num_f (p - q) (by omega)
  obtain ⟨di, kdi, edi, ndi⟩ := num_f (pi - qi) (by omega)
  obtain ⟨m, km, em, nm⟩ := num_f (p * q - pi * qi) (by omega)
  obtain ⟨mi, kmi, emi, nmi⟩ := num_f (p * qi + pi * q) (by omega)
  have em' : floatOfInt .f64 (wrap64 (wrap64 (p * q) - wrap64 (pi * qi))) = m := by
    rw [wrap_id m1, wrap_id m2, show wrap64 (p * q - pi * qi) = p * q - pi * qi by unfold wrap64; omega]; exact em
  have emi' : floatOfInt .f64 (wrap64 (wrap64 (p * qi) + wrap64 (pi * q))) = mi := by
    rw [wrap_id m3, wrap_id m4, show wrap64 (p * qi + pi * q) = p * qi + pi * q by unfold wrap64; omega]; exact emi
  refine discsHold_w v f p0 pi0 q0 qi0 p pi q qi x xi y yi s si d di m mi w1 w2 w3 w4 b1 b2 b3 b4 ex exi ey eyi es esi ed edi em' emi' ?_ hl.lt w hl
  intro a b r a2 b2 r2 ha hb hr ha2 hb2 hr2
  obtain ⟨v1, g1, c1⟩ := rinDisc_any nx.key ⟨nx.lo, nx.hi⟩ nxi.key ⟨nxi.lo, nxi.hi⟩ ha hb hr
  obtain ⟨v2, g2, c2⟩ := rinDisc_any ny.key ⟨ny.lo, ny.hi⟩ nyi.key ⟨nyi.lo, nyi.hi⟩ ha2 hb2 hr2
  refine ⟨v1, v2, c1, c2, fun t1 t2 => ?_⟩
  rcases g1 t1 with A | ⟨x1, y1, z1, D1, I1⟩
  · have o : (∃ x y t, DFin a2 b2 r2 x y t) ∨ Key r2 INF := by
      rcases g2 t2 with q | ⟨x, y, t, q, _⟩
      · exact .inr q
      · exact .inl ⟨x, y, t, q⟩
    obtain ⟨_, _, _, d1, k1⟩ := discAdd_all1 (a := a) (b := b) A o
    obtain ⟨_, _, _, d2, k2⟩ := discSub_all1 (a := a) (b := b) A o
    obtain ⟨_, _, _, d3, k3⟩ := discMul_all1 (a := a) (b := b) A o
    exact ⟨_, _, _, _, _, _, _, _, _, k1, k2, k3, (holds_all d1).1, (holds_all d2).1, (holds_all d3).1, (holds_all (s := s) (si := si) d1).2, (holds_all (s := s) (si := si) d2).2, (holds_all (s := s) (si := si) d3).2⟩
  · rcases g2 t2 with A | ⟨x2, y2, z2, D2, I2⟩
    · obtain ⟨_, _, _, d1, k1⟩ := discAdd_all2 (a2 := a2) (b2 := b2) D1 A
      obtain ⟨_, _, _, d2, k2⟩ := discSub_all2 (a2 := a2) (b2 := b2) D1 A
      obtain ⟨_, _, _, d3, k3⟩ := discMul_all2 (a2 := a2) (b2 := b2) D1 A
      exact ⟨_, _, _, _, _, _, _, _, _, k1, k2, k3, (holds_all d1).1, (holds_all d2).1, (holds_all d3).1, (holds_all (s := s) (si := si) d1).2, (holds_all (s := s) (si := si) d2).2, (holds_all (s := s) (si := si) d3).2⟩
    · unfold inD at I1 I2
      rw [nx.val, nxi.val] at I1
      rw [ny.val, nyi.val] at I2
      have ft := Fin.of D1.r0 D1.r1
      have ft2 := Fin.of D2.r0 D2.r1
      obtain ⟨e1, f1, i1, k1, o1⟩ := discAdd_fin F D1 D2
      obtain ⟨e2, f2, i2, k2, o2⟩ := discSub_fin F D1 D2
      obtain ⟨e3, f3, i3, k3, o3⟩ := discMul_fin F D1 D2
      suffices H : Holds e1 f1 i1 s si ∧ Holds e2 f2 i2 d di ∧ Holds e3 f3 i3 m mi from ⟨_, _, _, _, _, _, _, _, _, k1, k2, k3, H.1.1, H.2.1.1, H.2.2.1, H.1.2, H.2.1.2, H.2.2.2⟩
      refine ⟨?_, ?_, ?_⟩
      · rcases o1 with o1 | ⟨u, v, c, A, lt, rfl, rfl, rfl⟩
        · exact holds_all o1.1
        · have q := add_sound D1.fa D1.fb D2.fa D2.fb D1.r0 D1.r1 D2.r0 D2.r1 A lt I1 I2
          have z := (A.rad (F.add_pl ft.pl ft2.pl).2 (F.aU_nn ft.pl ft2.pl D1.r0 D2.r0) lt).2.2.2.2.2
          refine holds_fin A.fu A.fv z lt rfl rfl rfl ns nsi ?_
          rw [Int.add_mul, Int.add_mul]
          exact q
      · rcases o2 with o2 | ⟨u, v, c, A, lt, rfl, rfl, rfl⟩
        · exact holds_all o2.1
        · have qq := sub_sound D1.fa D1.fb D2.fa D2.fb D1.r0 D1.r1 D2.r0 D2.r1 A lt I1 I2
          have z := (A.rad (F.add_pl ft.pl ft2.pl).2 (F.aU_nn ft.pl ft2.pl D1.r0 D2.r0) lt).2.2.2.2.2
          refine holds_fin A.fu A.fv z lt rfl rfl rfl nd ndi ?_
          rw [Int.sub_mul p q, Int.sub_mul pi qi]
          exact qq
      · rcases o3 with o3 | ⟨q1, q2, l1, l2, u, v, c, A, lt, rfl, rfl, rfl⟩
        · exact holds_all o3.1
        · have qq := mul_sound D1.fa D1.fb D2.fa D2.fb D1.r0 D1.r1 D2.r0 D2.r1 l1 l2 A lt I1 I2
          obtain ⟨pq1, q10, _⟩ := l1.ge D1.fa.pl D1.fb.pl
          obtain ⟨pq2, q20, _⟩ := l2.ge D2.fa.pl D2.fb.pl
          have pm1 := (F.mul_pl pq1 ft2.pl).2
          have pm2 := (F.mul_pl pq2 ft.pl).2
          have pm3 := (F.mul_pl ft.pl ft2.pl).2
          have z1' := (F.mul_pos pq1 ft2.pl q10 D2.r0).2
          have z2' := (F.mul_pos pq2 ft.pl q20 D1.r0).2
          have z3 := (F.mul_pos ft.pl ft2.pl D1.r0 D2.r0).2
          have pa := (F.add_pl pm1 pm2).2
          have z := (A.rad (F.add_pl pa pm3).2 (F.aU_nn pa pm3 (F.aU_nn pm1 pm2 z1' z2') z3) lt).2.2.2.2.2
          refine holds_fin A.fu A.fv z lt rfl rfl rfl nm nmi ?_
          generalize Vk (F.aU c (F.aU (F.aU (F.mU q1 z2) (F.mU q2 z1)) (F.mU z1 z2))) = T at qq ⊢
          generalize Vk u = A1 at qq ⊢
          generalize Vk v = A2 at qq ⊢
          have hU := U_posI
          generalize (U : Int) = U1 at qq hU ⊢
          have e1 : ((p * q - pi * qi) * U1 - A1) * ((p * q - pi * qi) * U1 - A1) * (U1 * U1) + ((p * qi + pi * q) * U1 - A2) * ((p * qi + pi * q) * U1 - A2) * (U1 * U1) = (p * U1 * (q * U1) - pi * U1 * (qi * U1) - U1 * A1) * (p * U1 * (q * U1) - pi * U1 * (qi * U1) - U1 * A1) + (p * U1 * (qi * U1) + pi * U1 * (q * U1) - U1 * A2) * (p * U1 * (qi * U1) + pi * U1 * (q * U1) - U1 * A2) := by grind
          have e2 : U1 * T * (U1 * T) = T * T * (U1 * U1) := by grind
          rw [← Int.add_mul] at e1
          rw [← e1, e2] at qq
          exact Int.le_of_mul_le_mul_right qq (Int.mul_pos hU hU)
end Go.Proofs.Ytacnclofbnafiaa
