import Derived.Test.YtacnclofbnafiabGreatDoorQA
import Derived.Test.YtacnclofbnafiabGreatDoorCA
namespace Go.Proofs.YtacnclofbnafiabGreatDoor
open Go.RowKit Fl

-- floats of the library, by places
theorem Key.abs {x : Nat} {k : Int} (h : Key x k) : ∃ y, Key y k.natAbs ∧ ∀ w, Calls Tryz.prog 44 #[.float .f64 x] w fun e w' => e = .returned (.float .f64 y) ∧ w' = w := by
  obtain ⟨s, r, rfl, hr, rfl⟩ := h
  refine ⟨W false r, ?_, abs_any s r (fin_lt hr)⟩
  have : ((ixI s r).natAbs : Int) = ixI false r := by cases s <;> simp [ixI]
  rw [this]
  exact key_word hr
theorem isNaN_key {x : Nat} {k : Int} (h : Key x k) : ∀ w, Calls Tryz.prog 159 #[.float .f64 x] w fun e w' => e = .returned (.bool false) ∧ w' = w := by
  obtain ⟨s, r, rfl, hr, rfl⟩ := h
  exact isNaN_no s r hr
theorem isNaN_nan {x : Nat} (h : NaNw x) : ∀ w, Calls Tryz.prog 159 #[.float .f64 x] w fun e w' => e = .returned (.bool true) ∧ w' = w := by
  obtain ⟨s, r, rfl, h1, h2⟩ := h
  exact isNaN_yes s r h1 h2
theorem isInf0_key {x : Nat} {k : Int} (h : Key x k) : ∀ w, Calls Tryz.prog 60 #[.float .f64 x, .int .i64 0] w fun e w' => e = .returned (.bool (decide (k = INF ∨ k = -(INF : Int)))) ∧ w' = w := by
  obtain ⟨s, r, rfl, hr, rfl⟩ := h
  have e : decide (ixI s r = INF ∨ ixI s r = -(INF : Int)) = decide (r = INF) := by
    have hI := INF_pos
    apply decide_eq_decide.2
    cases s
    · rw [ix_false]; omega
    · rw [ix_true]; omega
  rw [e]
  exact isInf0 s r (fin_lt hr)
theorem isInf1_key {x : Nat} {k : Int} (h : Key x k) (w : World) : Calls Tryz.prog 60 #[.float .f64 x, .int .i64 1] w fun e w' => e = .returned (.bool (decide (k = INF))) ∧ w' = w := by
  have ho : (Ieee.double.order x 9218868437227405311 == some .gt) = decide (k = INF) := by
    rw [h.order Key.max]
    have := h.bd
    by_cases c : k = INF
    · have : compare k ((INF : Int) - 1) = .gt := Int.compare_eq_gt.2 (by omega)
      rw [this]; simp [c]
    · have : compare k ((INF : Int) - 1) ≠ .gt := by rw [Ne, Int.compare_eq_gt]; omega
      simp [this, c]
  go_enter Tryz.func60, Tryz.ntmps60
  go_wp2
  go_ret
  exact ⟨rfl, rfl⟩
theorem Key.word {n : Nat} (h : n < INF) : Key n n := by
  have := key_word (sg := false) (z := n) (by omega)
  rwa [W_false, ix_false] at this
-- UP
theorem paddUp (F : Ops) {x y : Nat} {k l : Int} (hx : Key x k) (hy : Key y l) : ∀ w, Calls Tryz.prog 152 #[.float .f64 x, .float .f64 y] w fun e w' => e = .returned (.float .f64 (B (F.aU k l))) ∧ Below w.heap.size w w' := addUp_w x y _ _ (F.add_p hx hy)
theorem pmulUp (F : Ops) {x y : Nat} {k l : Int} (hx : Key x k) (hy : Key y l) : ∀ w, Calls Tryz.prog 155 #[.float .f64 x, .float .f64 y] w fun e w' => e = .returned (.float .f64 (B (F.mU k l))) ∧ Below w.heap.size w w' := mulUp_w x y _ _ (F.mul_p hx hy)
theorem psqrtUp (F : Ops) {x : Nat} {k : Int} (hx : Key x k) (h0 : 0 ≤ k) : ∀ w, Calls Tryz.prog 164 #[.float .f64 x] w fun e w' => e = .returned (.float .f64 (B (F.sU k))) ∧ Below w.heap.size w w' := sqrtUp_w x _ _ (F.sqrt_p hx h0)
-- the scales
def sOne : Int := 4607182418800017408
def sLo : Int := 1905022642377719808
def sHi : Int := 7309342195222315008
theorem U_sq : M 1905022642377719808 * M 7309342195222315008 = U * U := by
  obtain ⟨a, ha⟩ : ∃ a : Nat, a = 422 := ⟨_, rfl⟩
  obtain ⟨b, hb⟩ : ∃ b : Nat, b = 1622 := ⟨_, rfl⟩
  obtain ⟨c, hc⟩ : ∃ c : Nat, c = 52 := ⟨_, rfl⟩
  have e0 : a * 4503599627370496 + 4503599627370496 = 1905022642377719808 := by rw [ha]
  have e1 : b * 4503599627370496 + 4503599627370496 = 7309342195222315008 := by rw [hb]
  have h0 := M_pack a 4503599627370496 (by decide) (.inl (by decide))
  have h1 := M_pack b 4503599627370496 (by decide) (.inl (by decide))
  rw [e0] at h0
  rw [e1] at h1
  have e2 : 4503599627370496 = 2 ^ c := by rw [hc]
  have hE := EE_eq
  rw [h0, h1, e2]
  unfold U
  rw [← Nat.pow_add, ← Nat.pow_add, ← Nat.pow_add, ← Nat.pow_add]
  clear h0 h1 e2
  congr 1
  omega
/-- What 'length' answers, by places: of a and b, in their sizes. -/
inductive LenOk (F : Ops) (a b : Int) : Int → Prop where
  | l : a = 0 → LenOk F a b b.natAbs
  | r : b = 0 → LenOk F a b a.natAbs
  | one : a ≠ 0 → b ≠ 0 → (max a.natAbs b.natAbs : Int) ≤ 6858982232485265408 → 2805742567851819008 ≤ (max a.natAbs b.natAbs : Int) → LenOk F a b (F.len sOne sOne a.natAbs b.natAbs)
  | big : a ≠ 0 → b ≠ 0 → 6858982232485265408 < (max a.natAbs b.natAbs : Int) → LenOk F a b (F.len sLo sHi a.natAbs b.natAbs)
  | small : a ≠ 0 → b ≠ 0 → (max a.natAbs b.natAbs : Int) < 2805742567851819008 → LenOk F a b (F.len sHi sLo a.natAbs b.natAbs)
theorem Nr.exact {E σ j : Int} (h : Nr E 1 σ) (h1 : -(INF : Int) ≤ j) (h2 : j ≤ INF) (e : Vk j = E) : σ = j := by
  have := h j h1 h2
  have a := this.1 (by omega)
  have b := this.2 (by omega)
  omega
theorem own_zero {x y : Nat} {k : Int} (hx : Key x 0) (hy : Key y k) : ∃ s, Ieee.double.add x y = some s ∧ Key s k ∧ ∃ s', Ieee.double.add y x = some s' ∧ Key s' k := by
  have hI := INF_pos
  have hb := hy.bd
  by_cases c : k = INF ∨ k = -(INF : Int)
  · exact own_add_inf hx hy c
  · obtain ⟨s, σ, a1, a2, a3⟩ := own_add hx hy (by omega) (by omega) (by omega) (by omega)
    obtain ⟨s', σ', b1, b2, b3⟩ := own_add hy hx (by omega) (by omega) (by omega) (by omega)
    rw [Vk_zero] at a3 b3
    have e1 := a3.exact hb.1 hb.2 (by omega)
    have e2 := b3.exact hb.1 hb.2 (by omega)
    subst e1; subst e2
    exact ⟨s, a1, a2, s', b1, b2⟩
theorem eq0 {x : Nat} {k : Int} (h : Key x k) : (Ieee.double.order x 0 == some .eq) = decide (k = 0) := by
  rw [h.order Key.zero]
  by_cases c : k = 0
  · subst c; simp
  · have : compare k 0 ≠ .eq := by rw [Ne, Int.compare_eq_eq]; exact c
    simp [this, c]
theorem gtw {x : Nat} {k : Int} {n : Nat} (h : Key x k) (hn : n < INF) : (Ieee.double.order x n == some .gt) = decide ((n : Int) < k) := by
  rw [h.order (Key.word hn)]
  by_cases c : (n : Int) < k
  · rw [Int.compare_eq_gt.2 c]; simp [c]
  · have : compare k (n : Int) ≠ .gt := by rw [Ne, Int.compare_eq_gt]; exact c
    simp [this, c]
theorem ltw {x : Nat} {k : Int} {n : Nat} (h : Key x k) (hn : n < INF) : (Ieee.double.order x n == some .lt) = decide (k < (n : Int)) := by
  rw [h.order (Key.word hn)]
  by_cases c : k < (n : Int)
  · rw [Int.compare_eq_lt.2 c]; simp [c]
  · have : compare k (n : Int) ≠ .lt := by rw [Ne, Int.compare_eq_lt]; exact c
    simp [this, c]
theorem Ops.aU_nn (F : Ops) {k l : Int} (hk : Pl k) (hl : Pl l) (h1 : 0 ≤ k) (h2 : 0 ≤ l) : 0 ≤ F.aU k l := by
  have hI := INF_pos
  rcases Int.lt_or_le (F.aU k l) 0 with g | g
  · exfalso
    obtain ⟨_, _, q, _⟩ := F.aU_fin hk hl (by omega) (by omega) (by omega)
    have := Vk_lt.2 g
    rw [Vk_zero] at this
    have := Vk_nn h1
    have := Vk_nn h2
    omega
  · exact g
theorem plength (F : Ops) {a b : Nat} {k l : Int} (ha : Key a k) (hb : Key b l) : ∃ x m, Key x m ∧ LenOk F k l m ∧ ∀ w, Calls Tryz.prog 153 #[.float .f64 a, .float .f64 b] w fun e w' => e = .returned (.float .f64 x) ∧ Below w.heap.size w w' := by
  have hI := INF_pos
  obtain ⟨x, kx, ax⟩ := ha.abs
  obtain ⟨y, ky, ay⟩ := hb.abs
  have ex := eq0 kx
  have ey := eq0 ky
  by_cases h0 : k = 0
  · rw [decide_eq_true (by omega)] at ex
    have kx' : Key x 0 := by have : (k.natAbs : Int) = 0 := by omega
                             rwa [this] at kx
    obtain ⟨s, e, ks, _⟩ := own_zero kx' ky
    exact ⟨s, _, ks, .l h0, length_0_w a b x y s ax ay ex e⟩
  · rw [decide_eq_false (by omega)] at ex
    by_cases h1 : l = 0
    · rw [decide_eq_true (by omega)] at ey
      have ky' : Key y 0 := by have : (l.natAbs : Int) = 0 := by omega
                               rwa [this] at ky
      obtain ⟨_, _, _, s, e, ks⟩ := own_zero ky' kx
      exact ⟨s, _, ks, .r h1, length_1_w a b x y s ax ay ex ey e⟩
    · rw [decide_eq_false (by omega)] at ey
      obtain ⟨z, kz, _, mz⟩ := max_key kx ky
      have g1 := gtw (n := 6858982232485265408) kz (by rw [INF_eq]; omega)
      have g2 := ltw (n := 2805742567851819008) kz (by rw [INF_eq]; omega)
      have fin : ∀ (s s' : Nat) (m : Int), s < INF → s' < INF → LenOk F k l (F.len s s' k.natAbs l.natAbs) → (∀ (x1 y1 x2 y2 t r q : Nat), (∀ w, Calls Tryz.prog 155 #[.float .f64 x, .float .f64 s] w fun e w' => e = .returned (.float .f64 x1) ∧ Below w.heap.size w w') → (∀ w, Calls Tryz.prog 155 #[.float .f64 y, .float .f64 s] w fun e w' => e = .returned (.float .f64 y1) ∧ Below w.heap.size w w') → (∀ w, Calls Tryz.prog 155 #[.float .f64 x1, .float .f64 x1] w fun e w' => e = .returned (.float .f64 x2) ∧ Below w.heap.size w w') → (∀ w, Calls Tryz.prog 155 #[.float .f64 y1, .float .f64 y1] w fun e w' => e = .returned (.float .f64 y2) ∧ Below w.heap.size w w') → (∀ w, Calls Tryz.prog 152 #[.float .f64 x2, .float .f64 y2] w fun e w' => e = .returned (.float .f64 t) ∧ Below w.heap.size w w') → (∀ w, Calls Tryz.prog 164 #[.float .f64 t] w fun e w' => e = .returned (.float .f64 r) ∧ Below w.heap.size w w') → (∀ w, Calls Tryz.prog 155 #[.float .f64 r, .float .f64 s'] w fun e w' => e = .returned (.float .f64 q) ∧ Below w.heap.size w w') → ∀ w, Calls Tryz.prog 153 #[.float .f64 a, .float .f64 b] w fun e w' => e = .returned (.float .f64 q) ∧ Below w.heap.size w w') → 0 < s → 0 < s' → ∃ x m, Key x m ∧ LenOk F k l m ∧ ∀ w, Calls Tryz.prog 153 #[.float .f64 a, .float .f64 b] w fun e w' => e = .returned (.float .f64 x) ∧ Below w.heap.size w w' := by
        intro s s' _ hs hs' ok go s0 s0'
        have ks := Key.word hs
        have ks' := Key.word hs'
        have px := (F.mul_pl kx.pl ks.pl).2
        have py := (F.mul_pl ky.pl ks.pl).2
        have x0 := (F.mU_fin kx.pl ks.pl (by omega) (by omega)).1
        have y0 := (F.mU_fin ky.pl ks.pl (by omega) (by omega)).1
        have px2 := (F.mul_pl px px).2
        have py2 := (F.mul_pl py py).2
        have x20 := (F.mU_fin px px x0 x0).1
        have y20 := (F.mU_fin py py y0 y0).1
        have pt := (F.add_pl px2 py2).2
        have t0 : 0 ≤ F.aU (F.mU (F.mU k.natAbs s) (F.mU k.natAbs s)) (F.mU (F.mU l.natAbs s) (F.mU l.natAbs s)) := F.aU_nn px2 py2 (by omega) (by omega)
        have pr := (F.sqrt_pl pt t0).2
        refine ⟨_, _, Key.at (F.mul_pl pr ks'.pl).2, ok, go _ _ _ _ _ _ _ (pmulUp F kx ks) (pmulUp F ky ks) (pmulUp F (Key.at px) (Key.at px)) (pmulUp F (Key.at py) (Key.at py)) (paddUp F (Key.at px2) (Key.at py2)) (psqrtUp F (Key.at pt) t0) (pmulUp F (Key.at pr) ks')⟩
      have o1 : 4607182418800017408 < INF := one_lt
      have o2 : 1905022642377719808 < INF := by rw [INF_eq]; omega
      have o3 : 7309342195222315008 < INF := by rw [INF_eq]; omega
      by_cases c1 : (6858982232485265408 : Int) < max (k.natAbs : Int) l.natAbs
      · rw [decide_eq_true (by omega)] at g1
        exact fin 1905022642377719808 7309342195222315008 0 o2 o3 (.big h0 h1 c1) (fun x1 y1 x2 y2 t r q m1 m2 m3 m4 m5 m6 m7 => length_g_w a b x y z x1 y1 x2 y2 t r q ax ay ex ey mz g1 (by kernel_rfl) m1 m2 m3 m4 m5 m6 m7) (by omega) (by omega)
      · rw [decide_eq_false (by omega)] at g1
        by_cases c2 : max (k.natAbs : Int) l.natAbs < (2805742567851819008 : Int)
        · rw [decide_eq_true (by omega)] at g2
          exact fin 7309342195222315008 1905022642377719808 0 o3 o2 (.small h0 h1 c2) (fun x1 y1 x2 y2 t r q m1 m2 m3 m4 m5 m6 m7 => length_s_w a b x y z x1 y1 x2 y2 t r q ax ay ex ey mz g1 g2 (by kernel_rfl) m1 m2 m3 m4 m5 m6 m7) (by omega) (by omega)
        · rw [decide_eq_false (by omega)] at g2
          exact fin 4607182418800017408 4607182418800017408 0 o1 o1 (.one h0 h1 (by omega) (by omega)) (fun x1 y1 x2 y2 t r q m1 m2 m3 m4 m5 m6 m7 => length_m_w a b x y z x1 y1 x2 y2 t r q ax ay ex ey mz g1 g2 (by kernel_rfl) m1 m2 m3 m4 m5 m6 m7) (by omega) (by omega)
-- the middle
theorem M_max : M 9218868437227405311 = 2 * M 9214364837600034815 := by
  have h1 := M_pack 2045 9007199254740991 (by omega) (.inl (by omega))
  have h0 := M_pack 2044 9007199254740991 (by omega) (.inl (by omega))
  have e1 : 2045 * 4503599627370496 + 9007199254740991 = 9218868437227405311 := by omega
  have e0 : 2044 * 4503599627370496 + 9007199254740991 = 9214364837600034815 := by omega
  obtain ⟨n, hn⟩ : ∃ n : Nat, n = 2044 := ⟨_, rfl⟩
  rw [e1, show 2045 = n + 1 by omega, Nat.pow_succ] at h1
  rw [e0, ← hn] at h0
  rw [h1, h0]
  generalize 2 ^ n = q
  omega
def hMax : Int := 9214364837600034815
theorem Vk_hMax : Vk ((INF : Int) - 1) = 2 * Vk hMax := by
  have e : ((INF : Int) - 1) = (9218868437227405311 : Nat) := by rw [INF_eq]; omega
  rw [e, Vk_of_nn (by omega), Vk_of_nn (by unfold hMax; omega)]
  have := M_max
  have e2 : hMax.natAbs = 9214364837600034815 := rfl
  rw [e2, Int.natAbs_natCast]
  omega
theorem hMax_bd : 0 < hMax ∧ hMax < INF := by unfold hMax; rw [INF_eq]; omega
theorem Nr.half {k σ : Int} (h : Nr (Vk k) 2 σ) (h1 : -(INF : Int) < k) (h2 : k < INF) : -hMax ≤ σ ∧ σ ≤ hMax := by
  have b := hMax_bd
  have v := Vk_hMax
  have u1 : Vk k ≤ Vk ((INF : Int) - 1) := Vk_le.2 (by omega)
  have u2 : Vk (-((INF : Int) - 1)) ≤ Vk k := Vk_le.2 (by omega)
  rw [Vk_neg] at u2
  have n := Vk_neg hMax
  refine ⟨(h (-hMax) (by omega) (by omega)).1 (by omega), (h hMax (by omega) (by omega)).2 (by omega)⟩
theorem Nr.two {a b σ : Int} (h : Nr (Vk a + Vk b) 1 σ) (a1 : -hMax ≤ a) (a2 : a ≤ hMax) (b1 : -hMax ≤ b) (b2 : b ≤ hMax) : -(INF : Int) < σ ∧ σ < INF := by
  have c := hMax_bd
  have v := Vk_hMax
  have n := Vk_neg hMax
  have u1 := Vk_le.2 a1
  have u2 := Vk_le.2 a2
  have u3 := Vk_le.2 b1
  have u4 := Vk_le.2 b2
  have e1 := (h (-((INF : Int) - 1)) (by omega) (by omega)).1 (by rw [Vk_neg]; omega)
  have e2 := (h ((INF : Int) - 1) (by omega) (by omega)).2 (by omega)
  omega
/-- What 'middle' answers, by places. -/
inductive MidOk (k l : Int) : Int → Prop where
  | sum {σ u : Int} : Nr (Vk k + Vk l) 1 σ → -(INF : Int) < σ → σ < INF → Nr (Vk σ) 2 u → MidOk k l u
  | half {σ ρ τ u : Int} : Nr (Vk k + Vk l) 1 σ → (σ = INF ∨ σ = -(INF : Int)) → Nr (Vk k) 2 ρ → Nr (Vk l) 2 τ → Nr (Vk ρ + Vk τ) 1 u → MidOk k l u
theorem pmiddle {X1 X2 : Nat} {k l : Int} (hx : Key X1 k) (hy : Key X2 l) (h1 : -(INF : Int) < k) (h2 : k < INF) (h3 : -(INF : Int) < l) (h4 : l < INF) :
    ∃ u, MidOk k l u ∧ -(INF : Int) < u ∧ u < INF ∧ ∀ w, Calls Tryz.prog 151 #[.agg #[.float .f64 X1, .float .f64 X2]] w fun e w' => e = .returned (.float .f64 (B u)) ∧ Below w.heap.size w w' := by
  have hI := INF_pos
  have hb := hMax_bd
  obtain ⟨s, σ, a1, a2, a3⟩ := own_add hx hy h1 h2 h3 h4
  by_cases c : σ = INF ∨ σ = -(INF : Int)
  · obtain ⟨m, b1, b2⟩ := own_half_inf a2 c
    obtain ⟨u, ρ, c1, c2, c3⟩ := own_half hx h1 h2
    obtain ⟨v, τ, d1, d2, d3⟩ := own_half hy h3 h4
    have e1 := c3.half h1 h2
    have e2 := d3.half h3 h4
    obtain ⟨n, ν, f1, f2, f3⟩ := own_add c2 d2 (by omega) (by omega) (by omega) (by omega)
    have e3 := f3.two e1.1 e1.2 e2.1 e2.2
    have i := isInf0_key b2
    rw [decide_eq_true c] at i
    exact ⟨ν, .half a3 c c3 d3 f3, e3.1, e3.2, middle_2_w X1 X2 s m u v n _ a1 b1 i c1 d1 f1 (plain_key f2)⟩
  · have bd := a2.bd
    obtain ⟨m, μ, b1, b2, b3⟩ := own_half a2 (by omega) (by omega)
    have e := b3.half (by omega) (by omega)
    have i := isInf0_key b2
    rw [decide_eq_false (by omega)] at i
    exact ⟨μ, .sum a3 (by omega) (by omega) b3, by omega, by omega, middle_1_w X1 X2 s m _ a1 b1 i (plain_key b2)⟩
theorem preach (F : Ops) {X1 X2 m : Nat} {k l u : Int} (hx : Key X1 k) (hy : Key X2 l) (hm : Key m u) :
    ∃ r, Key r (max (F.aU l (-u)) (F.aU u (-k))) ∧ ∀ w, Calls Tryz.prog 154 #[.agg #[.float .f64 X1, .float .f64 X2], .float .f64 m] w fun e w' => e = .returned (.float .f64 r) ∧ Below w.heap.size w w' := by
  obtain ⟨mn, n1, n2⟩ := hm.neg
  obtain ⟨ln, l1, l2⟩ := hx.neg
  obtain ⟨r, r1, _, r3⟩ := max_key (Key.at (F.add_pl hy.pl n2.pl).2) (Key.at (F.add_pl hm.pl l2.pl).2)
  exact ⟨r, r1, reach_w X1 X2 m mn ln _ _ r n1 l1 (paddUp F hy n2) (paddUp F hm l2) r3⟩
theorem Ops.reach_ge (F : Ops) {k l u : Int} (h1 : -(INF : Int) < k) (h2 : k < INF) (h3 : -(INF : Int) < l) (h4 : l < INF) (h5 : -(INF : Int) < u) (h6 : u < INF) (h : max (F.aU l (-u)) (F.aU u (-k)) < INF) :
    Vk l - Vk u ≤ Vk (max (F.aU l (-u)) (F.aU u (-k))) ∧ Vk u - Vk k ≤ Vk (max (F.aU l (-u)) (F.aU u (-k))) := by
  have p : ∀ {z : Int}, -(INF : Int) < z → z < INF → Pl z := fun a b => by unfold Pl; omega
  obtain ⟨_, _, a, _⟩ := F.aU_fin (p h3 h4) (pl_neg (p h5 h6)) h3 (by omega) (by omega)
  obtain ⟨_, _, b, _⟩ := F.aU_fin (p h5 h6) (pl_neg (p h1 h2)) h5 (by omega) (by omega)
  rw [Vk_neg] at a b
  have v1 : Vk (F.aU l (-u)) ≤ Vk (max (F.aU l (-u)) (F.aU u (-k))) := Vk_le.2 (by omega)
  have v2 : Vk (F.aU u (-k)) ≤ Vk (max (F.aU l (-u)) (F.aU u (-k))) := Vk_le.2 (by omega)
  omega
theorem LenOk.ge {F : Ops} {a b m : Int} (ha : Pl a) (hb : Pl b) (h : LenOk F a b m) : Pl m ∧ 0 ≤ m ∧ (m < INF → -(INF : Int) < a ∧ a < INF ∧ -(INF : Int) < b ∧ b < INF ∧ Vk a * Vk a + Vk b * Vk b ≤ Vk m * Vk m) := by
  have hI := INF_pos
  have sq : ∀ z : Int, Vk (z.natAbs : Int) * Vk (z.natAbs : Int) = Vk z * Vk z := fun z => by
    rcases Int.le_total 0 z with g | g
    · rw [show (z.natAbs : Int) = z by omega]
    · rw [show (z.natAbs : Int) = -z by omega, Vk_neg, Int.neg_mul_neg]
  have pa : Pl (a.natAbs : Int) := by unfold Pl at *; omega
  have pb : Pl (b.natAbs : Int) := by unfold Pl at *; omega
  have big : ∀ s s' : Int, Pl s → Pl s' → 0 < s → 0 < s' → Vk s * Vk s' = (U : Int) * U → a ≠ 0 → b ≠ 0 → Pl (F.len s s' a.natAbs b.natAbs) ∧ 0 ≤ F.len s s' a.natAbs b.natAbs ∧ (F.len s s' a.natAbs b.natAbs < INF → -(INF : Int) < a ∧ a < INF ∧ -(INF : Int) < b ∧ b < INF ∧ Vk a * Vk a + Vk b * Vk b ≤ Vk (F.len s s' a.natAbs b.natAbs) * Vk (F.len s s' a.natAbs b.natAbs)) := by
    intro s s' ps ps' s0 s0' e ha0 hb0
    obtain ⟨q1, q2, q3⟩ := F.len_ge (a := (a.natAbs : Int)) (b := (b.natAbs : Int)) pa pb ps ps' (by omega) (by omega) s0 s0' e
    refine ⟨q1, by omega, fun h => ?_⟩
    obtain ⟨q4, q5, q6⟩ := q3 h
    rw [sq, sq] at q6
    exact ⟨by omega, by omega, by omega, by omega, q6⟩
  have v1 : Vk sOne = (U : Int) := by
    unfold sOne
    rw [Vk_of_nn (by omega)]
    have e : (4607182418800017408 : Int).natAbs = 4607182418800017408 := rfl
    rw [e, M_oneW]
  have v2 : Vk sLo * Vk sHi = (U : Int) * U := by
    unfold sLo sHi
    rw [Vk_of_nn (by omega), Vk_of_nn (by omega)]
    have e1 : (1905022642377719808 : Int).natAbs = 1905022642377719808 := rfl
    have e2 : (7309342195222315008 : Int).natAbs = 7309342195222315008 := rfl
    rw [e1, e2, ← Int.natCast_mul, U_sq, Int.natCast_mul]
  have p1 : Pl sOne ∧ 0 < sOne := by unfold Pl sOne; rw [INF_eq]; omega
  have p2 : Pl sLo ∧ 0 < sLo := by unfold Pl sLo; rw [INF_eq]; omega
  have p3 : Pl sHi ∧ 0 < sHi := by unfold Pl sHi; rw [INF_eq]; omega
  cases h with
  | l h0 =>
    refine ⟨pb, by omega, fun h => ⟨by omega, by omega, by omega, by omega, ?_⟩⟩
    subst h0
    rw [sq, Vk_zero]; omega
  | r h0 =>
    refine ⟨pa, by omega, fun h => ⟨by omega, by omega, by omega, by omega, ?_⟩⟩
    subst h0
    rw [sq, Vk_zero]; omega
  | one h0 h1 _ _ => exact big _ _ p1.1 p1.1 p1.2 p1.2 (by rw [v1]) h0 h1
  | big h0 h1 _ => exact big _ _ p2.1 p3.1 p2.2 p3.2 v2 h0 h1
  | small h0 h1 _ => exact big _ _ p3.1 p2.1 p3.2 p2.2 (by rw [Int.mul_comm]; exact v2) h0 h1
end Go.Proofs.YtacnclofbnafiabGreatDoor
