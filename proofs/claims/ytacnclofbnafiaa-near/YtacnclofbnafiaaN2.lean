import Derived.Test.YtacnclofbnafiaaN1
namespace Go.Proofs.Ytacnclofbnafiaa
open Go.RowKit Fl

/-- x is no NaN, and worth v (infinity: 2^1024). -/
def Is (x : Nat) (v : Int) : Prop := ∃ s r, x = W s r ∧ r ≤ INF ∧ V s r = v
theorem V_all (s t : Bool) (r q : Nat) (hr : r ≤ INF) (hq : q ≤ INF) : Ieee.double.order (W s r) (W t q) = some (compare (V s r) (V t q)) := by
  have hI := M_pos INF_pos
  rcases Nat.lt_or_eq_of_le hr with h1 | h1
  · rcases Nat.lt_or_eq_of_le hq with h2 | h2
    · exact order_fin s t r q h1 h2
    · subst h2
      have h := M_lt h1
      rw [order_fin_inf t s r h1]
      cases t
      · rw [Int.compare_eq_lt.2]; · rfl
        unfold V; cases s <;> simp <;> omega
      · rw [Int.compare_eq_gt.2]; · rfl
        unfold V; cases s <;> simp <;> omega
  · subst h1
    rcases Nat.lt_or_eq_of_le hq with h2 | h2
    · have h := M_lt h2
      rw [order_inf_fin s t q h2]
      cases s
      · rw [Int.compare_eq_gt.2]; · rfl
        unfold V; cases t <;> simp <;> omega
      · rw [Int.compare_eq_lt.2]; · rfl
        unfold V; cases t <;> simp <;> omega
    · subst h2
      rw [order_inf_inf]
      cases s <;> cases t
      · simp
      · rw [Int.compare_eq_gt.2 (by unfold V; simp; omega)]; rfl
      · rw [Int.compare_eq_lt.2 (by unfold V; simp; omega)]; rfl
      · simp
theorem Is.order {x y : Nat} {u v : Int} (hx : Is x u) (hy : Is y v) : Ieee.double.order x y = some (compare u v) := by
  obtain ⟨s, r, rfl, hr, rfl⟩ := hx
  obtain ⟨t, q, rfl, hq, rfl⟩ := hy
  exact V_all s t r q hr hq
theorem Is.self {x : Nat} {u : Int} (hx : Is x u) : Ieee.double.order x x = some .eq := by rw [hx.order hx]; simp
theorem Is.not_gt {x y : Nat} {u v : Int} (hx : Is x u) (hy : Is y v) (h : u ≤ v) : (Ieee.double.order x y == some .gt) = false := by
  rw [hx.order hy]
  have : compare u v ≠ .gt := by rw [Ne, Int.compare_eq_gt]; omega
  simp [this]
theorem Is.not_lt {x y : Nat} {u v : Int} (hx : Is x u) (hy : Is y v) (h : v ≤ u) : (Ieee.double.order x y == some .lt) = false := by
  rw [hx.order hy]
  have : compare u v ≠ .lt := by rw [Ne, Int.compare_eq_lt]; omega
  simp [this]
theorem Is.eq {x y : Nat} {u : Int} (hx : Is x u) (hy : Is y u) : (Ieee.double.order x y == some .eq) = true := by
  rw [hx.order hy]; simp
theorem Is.word (s : Bool) (r : Nat) (hr : r ≤ INF) : Is (W s r) (V s r) := ⟨s, r, rfl, hr, rfl⟩
theorem Is.plain (s : Bool) (r : Nat) (hr : r ≤ INF) : Is (pw s r) (V s r) := by
  unfold Go.Proofs.Ytacnclofbnafiaa.pw
  split
  · rename_i h; subst h; exact ⟨false, 0, by rw [W_zero], Nat.zero_le _, by rw [V_zero, V_zero]⟩
  · exact Is.word s r hr
theorem Is.zero : Is 0 0 := ⟨false, 0, by rw [W_zero], Nat.zero_le _, V_zero _⟩
theorem Is.neg {x : Nat} {u : Int} (hx : Is x u) : ∃ x', Op.unary .neg (.float .f64 x) = pure (.float .f64 x') ∧ Is x' (-u) := by
  obtain ⟨s, r, rfl, hr, rfl⟩ := hx
  exact ⟨_, unary_negF s r (fin_lt hr), !s, r, rfl, hr, V_not s r⟩

/-- Values of DOWN and UP. -/
def dnV (sg : Bool) (lo hi : Nat) : Int := if sg then V true hi else V false lo
def upV (sg : Bool) (lo hi : Nat) : Int := if sg then V true lo else V false hi
theorem Is.dn (sg : Bool) (lo hi : Nat) (h1 : lo ≤ INF) (h2 : hi ≤ INF) : Is (dnW sg lo hi) (dnV sg lo hi) := by
  unfold dnW dnV; cases sg
  · exact Is.plain false lo h1
  · exact Is.plain true hi h2
theorem Is.up (sg : Bool) (lo hi : Nat) (h1 : lo ≤ INF) (h2 : hi ≤ INF) : Is (upW sg lo hi) (upV sg lo hi) := by
  unfold upW upV; cases sg
  · exact Is.plain false hi h2
  · exact Is.plain true lo h1
theorem LoHi.le {C : Nat → Int} (hC : Anti C) {lo hi : Nat} (h : LoHi C lo hi) : lo ≤ hi ∧ hi ≤ lo + 1 := by
  constructor
  · rcases Nat.lt_or_ge hi lo with g | g
    · have := h.lo_lt
      have h1 := h.hi_ok (by omega)
      have := hC.neg (M_lt g) h1
      have := h.lo_ok
      omega
    · exact g
  · rcases Nat.lt_or_ge (lo + 1) hi with g | g
    · have h1 := h.hi_prev (by omega)
      have h2 := h.lo_next (by have := h.hi_le; omega)
      rcases Nat.lt_or_eq_of_le (show lo + 1 ≤ hi - 1 by omega) with e | e
      · have := hC.neg (M_lt e) (Int.le_of_lt h2); omega
      · rw [← e] at h1; omega
    · exact g
theorem near_num (sg so : Bool) (lo hi oz : Nat) (h1 : lo ≤ hi) (h2 : hi ≤ lo + 1) (h3 : lo < INF) (h4 : hi ≤ INF) (h5 : lo ≤ oz) (h6 : oz ≤ hi) (h8 : so = sg ∨ oz = 0) :
    NearOk (dnW sg lo hi) (upW sg lo hi) (W so oz) := by
  have m1 := M_le h1
  have m2 := M_le h2
  have m5 := M_le h5
  have m6 := M_le h6
  have D := Is.dn sg lo hi (by omega) h4
  have P := Is.up sg lo hi (by omega) h4
  have hV : V so oz = V sg oz := by
    rcases h8 with h | h
    · rw [h]
    · subst h; rw [V_zero, V_zero]
  have O := Is.word so oz (by omega)
  rw [hV] at O
  have v1 : dnV sg lo hi ≤ V sg oz := by unfold dnV V; cases sg <;> simp <;> omega
  have v2 : V sg oz ≤ upV sg lo hi := by unfold upV V; cases sg <;> simp <;> omega
  refine ⟨D.self, P.self, D.not_gt P (by omega), so, oz, fin_lt (by omega), rfl, ?_⟩
  by_cases hI : oz = INF
  · exact .inr (.inl hI)
  · refine .inr (.inr ⟨by omega, D.not_gt O v1, P.not_lt O v2, ?_⟩)
    cases sg
    · have e : dnW false lo hi = W false lo := by
        unfold dnW pw
        by_cases h : lo = 0
        · subst h; simp [W_zero]
        · simp [h]
      refine ⟨W false (lo + 1), fun w => ?_, P.not_gt (Is.word false (lo + 1) (by omega)) ?_⟩
      · rw [e]; exact next_out false lo h3 w
      · unfold upV V; simp; omega
    · by_cases h : hi = 0
      · subst h
        have e : dnW true lo 0 = W false 0 := by unfold dnW pw; simp [W_zero]
        refine ⟨W false (0 + 1), fun w => ?_, P.not_gt (Is.word false (0 + 1) (by have := INF_pos; omega)) ?_⟩
        · rw [e]; exact next_out false 0 INF_pos w
        · unfold upV V; simp
      · have e : dnW true lo hi = W true hi := by unfold dnW pw; simp [h]
        have m7 : M (hi - 1) ≤ M lo := M_le (by omega)
        refine ⟨W true (hi - 1), fun w => ?_, P.not_gt (Is.word true (hi - 1) (by omega)) ?_⟩
        · rw [e]; exact next_in true hi (by omega) h4 w
        · unfold upV V; simp; omega
theorem near_odd {d u : Nat} {v1 v2 : Int} (D : Is d v1) (P : Is u v2) (h : v1 ≤ v2) (so : Bool) (oz : Nat) (hz : oz < 9223372036854775808) (ho : INF ≤ oz) : NearOk d u (W so oz) :=
  ⟨D.self, P.self, D.not_gt P h, so, oz, hz, rfl, by omega⟩
theorem near_lohi {C : Nat → Int} (hC : Anti C) {lo hi oz : Nat} (h : LoHi C lo hi) (ho : Faith C oz) (sg so : Bool) (h8 : so = sg ∨ oz = 0) :
    NearOk (dnW sg lo hi) (upW sg lo hi) (W so oz) := by
  obtain ⟨h1, h2⟩ := LoHi.le hC h
  have h3 := h.lo_lt
  have h4 := h.hi_le
  refine near_num sg so lo hi oz h1 h2 h3 h4 ((ho.2 lo (by omega)).1 h.lo_ok) ?_ h8
  rcases Nat.lt_or_eq_of_le h4 with e | e
  · exact (ho.2 hi h4).2 (h.hi_ok e)
  · rw [e]; exact ho.1
theorem Is.allD : Is (W true INF) (-(M INF : Int)) := Is.word true INF (Nat.le_refl _)
theorem Is.allU : Is (W false INF) (M INF : Int) := Is.word false INF (Nat.le_refl _)

-- Go's own answers
theorem drewN0 (w : World) : w.drewN 0 = w := rfl
theorem drewN1 (w : World) : w.drewN 1 = w.drew := rfl
/-- Go's own operation: its answer, a NaN where there is none. -/
theorem own_run (op : BinOp) (hop : op = .add ∨ op = .mul ∨ op = .quo) (x y : Nat) : ∃ (o : World → Nat) (n : Nat),
    (∀ t' w, (binOp op t' (.float .f64 x) (.float .f64 y)).run Try.prog w = .ok (.float .f64 (o w)) (w.drewN n))
    ∧ ∀ w, floatBits op .f64 x y = some (o w) ∨ (floatBits op .f64 x y = none ∧ ∃ s r, INF < r ∧ r < 9223372036854775808 ∧ o w = W s r) := by
  cases h : floatBits op .f64 x y with
  | some r => exact ⟨fun _ => r, 0, fun t' w => run_float_arith w op t' .f64 x y r h, fun w => .inl rfl⟩
  | none =>
    refine ⟨fun w => Question.cut (.nanBits .f64 x y) (w.tape w.drawn (.nanBits .f64 x y)), 1, fun t' w => ?_, fun w => .inr ⟨rfl, ?_⟩⟩
    · rw [drewN1]
      rcases hop with rfl | rfl | rfl <;> simp only [floatBits] at h <;> simp [binOp, Op.floatArith, h, choose, Sem.run, Question.forced, Question.cut]
    · obtain ⟨s, r, h1, h2, h3⟩ := nan_cut (w.tape w.drawn (.nanBits .f64 x y))
      exact ⟨s, r, h1, h2, h3⟩
theorem Sqrt_none (x : Nat) (o : World → Nat) (hs : ∀ w : World, (callFunc 91 #[.float .f64 x]).run Try.prog w = .ok (.value (.float .f64 (o w))) w.drew) (w : World) :
    Calls Try.prog 28 #[.float .f64 x] w fun e w' => e = .returned (.float .f64 (o w)) ∧ w' = w.drew := by
  go_enter Try.func28, Try.ntmps28
  go_wp2
  go_ret
  exact ⟨rfl, rfl⟩
theorem sqrt_own (x : Nat) : ∃ (o : World → Nat) (n : Nat),
    (∀ w, Calls Try.prog 28 #[.float .f64 x] w fun e w' => e = .returned (.float .f64 (o w)) ∧ w' = w.drewN n)
    ∧ ∀ w, Ieee.double.sqrt x = some (o w) ∨ (Ieee.double.sqrt x = none ∧ ∃ s r, INF < r ∧ r < 9223372036854775808 ∧ o w = W s r) := by
  cases h : Ieee.double.sqrt x with
  | some r => exact ⟨fun _ => r, 0, fun w => (Sqrt_any x r h w).mono fun e w' ⟨he, hw⟩ => ⟨he, hw⟩, fun w => .inl rfl⟩
  | none =>
    refine ⟨fun w => Question.cut (.nanBits .f64 x x) (w.tape w.drawn (.nanBits .f64 x x)), 1, fun w => ?_, fun w => .inr ⟨rfl, ?_⟩⟩
    · rw [drewN1]
      refine Sqrt_none x (fun w => Question.cut (.nanBits .f64 x x) (w.tape w.drawn (.nanBits .f64 x x))) (fun w => ?_) w
      rw [run_callFunc_extern Try.func91 (by kernel_rfl) (by kernel_rfl) (by kernel_rfl) (e := Extern.MathSqrt.sqrt) (by kernel_rfl)]
      have h' : FloatKind.f64.format.sqrt x = none := h
      have e : Extern.MathSqrt.sqrt #[.float .f64 x] = (match FloatKind.f64.format.sqrt x with
          | some r => pure (.float .f64 r)
          | none => choose (.nanBits .f64 x x) >>= fun c => pure (.float .f64 c)) := rfl
      rw [e, h']
      rfl
    · obtain ⟨s, r, h1, h2, h3⟩ := nan_cut (w.tape w.drawn (.nanBits .f64 x x))
      exact ⟨s, r, h1, h2, h3⟩

-- the four operations
theorem near_add (s t : Bool) (r q D P : Nat) (hr : r < 9223372036854775808) (hq : q < 9223372036854775808) (H : AddSpec s r t q D P) (o : Nat)
    (ho : Ieee.double.add (W s r) (W t q) = some o ∨ (Ieee.double.add (W s r) (W t q) = none ∧ ∃ s r, INF < r ∧ r < 9223372036854775808 ∧ o = W s r)) : NearOk D P o := by
  have hI := M_pos INF_pos
  have odd : Ieee.double.add (W s r) (W t q) = none → D = W true INF ∧ P = W false INF → NearOk D P o := by
    intro hn ⟨hD, hP⟩
    rw [hn] at ho
    rcases ho with h | ⟨_, s', r', h1, h2, rfl⟩
    · cases h
    · rw [hD, hP]; exact near_odd Is.allD Is.allU (by omega) s' r' h2 (by omega)
  have same : ∀ u, Ieee.double.add (W s r) (W t q) = some (W u INF) → D = W u INF ∧ P = W u INF → NearOk D P o := by
    intro u hn ⟨hD, hP⟩
    rw [hn] at ho
    rcases ho with h | ⟨h, _⟩
    · cases h; rw [hD, hP]; exact near_odd (Is.word u INF (Nat.le_refl _)) (Is.word u INF (Nat.le_refl _)) (Int.le_refl _) u INF INF_lt (Nat.le_refl _)
    · cases h
  by_cases h1 : INF < r
  · exact odd (add_nan_l s r _ h1 hr) (H.all (.inl h1))
  by_cases h2 : INF < q
  · exact odd (add_nan_r t q _ h2 hq) (H.all (.inr (.inl h2)))
  by_cases h3 : r = INF
  · by_cases h4 : q = INF
    · by_cases h5 : s = t
      · subst h5
        exact same s (by rw [h3, h4]; exact add_inf_inf s) (H.inf_l h3 (by omega) (fun _ => rfl))
      · have ht : t = !s := by cases s <;> cases t <;> simp at h5 ⊢
        exact odd (by rw [h3, h4, ht]; exact add_inf_not s) (H.all (.inr (.inr ⟨h3, h4, h5⟩)))
    · exact same s (by rw [h3]; exact add_inf_l s t q (by omega)) (H.inf_l h3 (by omega) (fun h => absurd h h4))
  by_cases h4 : q = INF
  · exact same t (by rw [h4]; exact add_inf_r t s r (by omega)) (H.inf_r (by omega) h4)
  obtain ⟨sg, lo, hi, k1, k2, rfl, rfl⟩ := H.num (by omega) (by omega)
  obtain ⟨u, z, g1, g2, g3, _⟩ := add_fin s t r q (by omega) (by omega)
  rw [g1] at ho
  rcases ho with h | ⟨h, _⟩
  · cases h
    refine near_lohi (Rt_anti _ _ (by omega)) k2 g2 sg u ?_
    rcases Int.lt_trichotomy (V s r + V t q) 0 with e | e | e
    · left; rw [k1.1 e, g3.1 e]
    · right; rw [e] at g2; exact g2.exact (Nat.zero_le _) (by unfold Rt; rw [M_zero]; simp)
    · left; rw [k1.2 e, g3.2 e]
  · cases h
theorem mul_nan_l (s : Bool) (r y : Nat) (h : INF < r) (h' : r < 9223372036854775808) : Ieee.double.mul (W s r) y = none := by
  unfold Ieee.Format.mul
  rw [read_nan s r h h']; rfl
theorem mul_nan_r (s : Bool) (r y : Nat) (h : INF < r) (h' : r < 9223372036854775808) : Ieee.double.mul y (W s r) = none := by
  unfold Ieee.Format.mul
  rw [read_nan s r h h']
  cases Ieee.double.read y <;> rfl
theorem mg_zero : mg 0 = 0 := by unfold mg; simp
theorem mul_zero_inf (s t : Bool) : Ieee.double.mul (W s 0) (W t INF) = none ∧ Ieee.double.mul (W t INF) (W s 0) = none := by
  unfold Ieee.Format.mul
  rw [read_fin s 0 INF_pos, read_inf]
  simp [Ieee.Datum.product, mg_zero]
theorem dn00 (u : Bool) : dnW u 0 0 = 0 := by unfold dnW pw; cases u <;> rfl
theorem up00 (u : Bool) : upW u 0 0 = 0 := by unfold upW pw; cases u <;> rfl
theorem near_00 (u : Bool) : NearOk 0 0 (W u 0) := by
  have := near_num u u 0 0 0 (by omega) (by omega) INF_pos (Nat.zero_le _) (by omega) (by omega) (.inl rfl)
  rwa [dn00, up00] at this
theorem near_mul (s t : Bool) (r q D P : Nat) (hr : r < 9223372036854775808) (hq : q < 9223372036854775808) (H : MulSpec s r t q D P) (o : Nat)
    (ho : Ieee.double.mul (W s r) (W t q) = some o ∨ (Ieee.double.mul (W s r) (W t q) = none ∧ ∃ s r, INF < r ∧ r < 9223372036854775808 ∧ o = W s r)) : NearOk D P o := by
  have hI := M_pos INF_pos
  have odd : ∀ {v1 v2 : Int}, Ieee.double.mul (W s r) (W t q) = none → Is D v1 → Is P v2 → v1 ≤ v2 → NearOk D P o := by
    intro v1 v2 hn hD hP hv
    rw [hn] at ho
    rcases ho with h | ⟨_, s', r', h1, h2, rfl⟩
    · cases h
    · exact near_odd hD hP hv s' r' h2 (by omega)
  by_cases h0 : INF < r ∨ INF < q
  · obtain ⟨rfl, rfl⟩ := H.nan h0
    refine odd ?_ Is.allD Is.allU (by omega)
    rcases h0 with h | h
    · exact mul_nan_l s r _ h hr
    · exact mul_nan_r t q _ h hq
  by_cases h1 : r = 0 ∨ q = 0
  · obtain ⟨rfl, rfl⟩ := H.zero (by omega) (by omega) h1
    by_cases h2 : r = INF ∨ q = INF
    · refine odd ?_ Is.zero Is.zero (Int.le_refl _)
      have := INF_pos
      rcases h1 with rfl | rfl
      · have : q = INF := by omega
        rw [this]; exact (mul_zero_inf s t).1
      · have : r = INF := by omega
        rw [this]; exact (mul_zero_inf t s).2
    · obtain ⟨z, g1, g2⟩ := mul_fin s t r q (by omega) (by omega)
      rw [g1] at ho
      have hz : z = 0 := by
        have hM : M r * M q = 0 := by rcases h1 with rfl | rfl <;> rw [M_zero] <;> simp
        rw [hM] at g2
        exact g2.exact (Nat.zero_le _) (by unfold Rt; rw [M_zero]; simp)
      subst hz
      rcases ho with h | ⟨h, _⟩
      · cases h; exact near_00 _
      · cases h
  by_cases h2 : r = INF ∨ q = INF
  · obtain ⟨rfl, rfl⟩ := H.inf (by omega) (by omega) (by omega) (by omega) h2
    have hm : Ieee.double.mul (W s r) (W t q) = some (W (s ^^ t) INF) := by
      rcases h2 with h | h
      · rw [h]; exact mul_inf_l s t q (by omega) (by omega)
      · rw [h]; exact mul_inf_r t s r (by omega) (by omega)
    rw [hm] at ho
    rcases ho with h | ⟨h, _⟩
    · cases h; exact near_odd (Is.word _ INF (Nat.le_refl _)) (Is.word _ INF (Nat.le_refl _)) (Int.le_refl _) _ INF INF_lt (Nat.le_refl _)
    · cases h
  obtain ⟨lo, hi, k2, rfl, rfl⟩ := H.num (by omega) (by omega) (by omega) (by omega)
  obtain ⟨z, g1, g2⟩ := mul_fin s t r q (by omega) (by omega)
  rw [g1] at ho
  rcases ho with h | ⟨h, _⟩
  · cases h; exact near_lohi (Rt_anti _ _ U_pos) k2 g2 _ _ (.inl rfl)
  · cases h
theorem div_nan_l (s : Bool) (r y : Nat) (h : INF < r) (h' : r < 9223372036854775808) : Ieee.double.div (W s r) y = none := by
  unfold Ieee.Format.div
  rw [read_nan s r h h']; rfl
theorem div_nan_r (s : Bool) (r y : Nat) (h : INF < r) (h' : r < 9223372036854775808) : Ieee.double.div y (W s r) = none := by
  unfold Ieee.Format.div
  rw [read_nan s r h h']
  cases Ieee.double.read y <;> rfl
theorem div_infs (s t : Bool) : Ieee.double.div (W s INF) (W t INF) = none := by
  unfold Ieee.Format.div
  rw [read_inf, read_inf]; rfl
theorem div_inf_r (s t : Bool) (r : Nat) (hr : r < INF) : Ieee.double.div (W s r) (W t INF) = some (W (s ^^ t) 0) := by
  unfold Ieee.Format.div
  rw [read_inf, read_fin s r hr]
  simp only [Ieee.Datum.quotient, Option.map_some, Ieee.Format.write]
  obtain ⟨z, hz, hf⟩ := nearest_faith (s ^^ t) 0 0
  rw [hz, word_W]
  have : z = 0 := hf.exact (Nat.zero_le _) (by unfold Rt; rw [M_zero, Nat.zero_mul, Nat.zero_mul]; rfl)
  rw [this]
theorem div_zero (s t : Bool) (r : Nat) (hr : r ≤ INF) : Ieee.double.div (W s r) (W t 0) = none ∨ Ieee.double.div (W s r) (W t 0) = some (W (s ^^ t) INF) := by
  unfold Ieee.Format.div
  rw [read_fin t 0 INF_pos]
  rcases Nat.lt_or_eq_of_le hr with h | h
  · rw [read_fin s r h]
    simp only [Ieee.Datum.quotient, mg_zero, if_true]
    by_cases hm : mg r = 0
    · rw [if_pos hm]; exact .inl rfl
    · rw [if_neg hm, Option.map_some, write_inf]; exact .inr rfl
  · subst h
    rw [read_inf]
    right
    simp only [Ieee.Datum.quotient, Option.map_some, write_inf]
theorem near_div (s t : Bool) (r q D P : Nat) (hr : r < 9223372036854775808) (hq : q < 9223372036854775808) (H : DivSpec s r t q D P) (o : Nat)
    (ho : Ieee.double.div (W s r) (W t q) = some o ∨ (Ieee.double.div (W s r) (W t q) = none ∧ ∃ s r, INF < r ∧ r < 9223372036854775808 ∧ o = W s r)) : NearOk D P o := by
  have hI := M_pos INF_pos
  have hIp := INF_pos
  have odd : ∀ {v1 v2 : Int}, (Ieee.double.div (W s r) (W t q) = none ∨ ∃ u, Ieee.double.div (W s r) (W t q) = some (W u INF)) → Is D v1 → Is P v2 → v1 ≤ v2 → NearOk D P o := by
    intro v1 v2 hn hD hP hv
    rcases hn with hn | ⟨u, hn⟩
    · rw [hn] at ho
      rcases ho with h | ⟨_, s', r', h1, h2, rfl⟩
      · cases h
      · exact near_odd hD hP hv s' r' h2 (by omega)
    · rw [hn] at ho
      rcases ho with h | ⟨h, _⟩
      · cases h; exact near_odd hD hP hv u INF INF_lt (Nat.le_refl _)
      · cases h
  by_cases h0 : INF < r ∨ INF < q ∨ q = 0 ∨ (r = INF ∧ q = INF)
  · obtain ⟨rfl, rfl⟩ := H.all h0
    refine odd ?_ Is.allD Is.allU (by omega)
    by_cases g1 : INF < r
    · exact .inl (div_nan_l s r _ g1 hr)
    by_cases g2 : INF < q
    · exact .inl (div_nan_r t q _ g2 hq)
    by_cases g3 : q = 0
    · subst g3
      rcases div_zero s t r (by omega) with h | h
      · exact .inl h
      · exact .inr ⟨_, h⟩
    · have g4 : r = INF ∧ q = INF := by omega
      rw [g4.1, g4.2]; exact .inl (div_infs s t)
  by_cases h1 : q = INF
  · obtain ⟨rfl, rfl⟩ := H.inf_r (by omega) h1
    rw [h1, div_inf_r s t r (by omega)] at ho
    rcases ho with h | ⟨h, _⟩
    · cases h; exact near_00 _
    · cases h
  by_cases h2 : r = INF
  · obtain ⟨rfl, rfl⟩ := H.inf_l h2 (by omega) (by omega)
    refine odd (.inr ⟨_, by rw [h2]; exact div_inf_l s t q (by omega)⟩) (Is.word _ INF (Nat.le_refl _)) (Is.word _ INF (Nat.le_refl _)) (Int.le_refl _)
  obtain ⟨lo, hi, k2, rfl, rfl⟩ := H.num (by omega) (by omega) (by omega)
  obtain ⟨z, g1, g2⟩ := div_fin s t r q (by omega) (by omega) (by omega)
  rw [g1] at ho
  rcases ho with h | ⟨h, _⟩
  · cases h; exact near_lohi (Rt_anti _ _ (M_pos (by omega))) k2 g2 _ _ (.inl rfl)
  · cases h
theorem sqrt_nan (s : Bool) (r : Nat) (h : INF < r) (h' : r < 9223372036854775808) : Ieee.double.sqrt (W s r) = none := by
  unfold Ieee.Format.sqrt
  rw [read_nan s r h h']; rfl
theorem sqrt_neg (r : Nat) (h0 : 0 < r) (h : r ≤ INF) : Ieee.double.sqrt (W true r) = none := by
  unfold Ieee.Format.sqrt
  rcases Nat.lt_or_eq_of_le h with g | g
  · rw [read_fin true r g]
    simp [Ieee.Datum.root, mg_ne h0]
  · subst g; rw [read_inf]; rfl
theorem sqrt_inf : Ieee.double.sqrt (W false INF) = some (W false INF) := by
  unfold Ieee.Format.sqrt
  rw [read_inf]
  simp only [Ieee.Datum.root, Bool.false_eq_true, if_false, Option.map_some, write_inf]
theorem near_sqrt (s : Bool) (r D P : Nat) (hr : r < 9223372036854775808) (H : SqrtSpec s r D P) (o : Nat)
    (ho : Ieee.double.sqrt (W s r) = some o ∨ (Ieee.double.sqrt (W s r) = none ∧ ∃ s r, INF < r ∧ r < 9223372036854775808 ∧ o = W s r)) : NearOk D P o := by
  have hI := M_pos INF_pos
  by_cases h0 : INF < r ∨ (s = true ∧ 0 < r)
  · obtain ⟨rfl, rfl⟩ := H.no h0
    have hn : Ieee.double.sqrt (W s r) = none := by
      by_cases g1 : INF < r
      · exact sqrt_nan s r g1 hr
      · have g2 := h0.resolve_left g1
        rw [g2.1]; exact sqrt_neg r g2.2 (by omega)
    rw [hn] at ho
    rcases ho with h | ⟨_, s', r', h1, h2, rfl⟩
    · cases h
    · exact near_odd Is.zero Is.allU (by omega) s' r' h2 (by omega)
  by_cases h1 : r = 0
  · obtain ⟨rfl, rfl⟩ := H.zero h1
    rw [h1, sqrt_zero s] at ho
    rcases ho with h | ⟨h, _⟩
    · cases h; exact near_00 _
    · cases h
  have hs : s = false := by
    cases s with
    | false => rfl
    | true => exfalso; exact h0 (.inr ⟨rfl, by omega⟩)
  subst hs
  by_cases h2 : r = INF
  · obtain ⟨rfl, rfl⟩ := H.inf rfl h2
    rw [h2, sqrt_inf] at ho
    rcases ho with h | ⟨h, _⟩
    · cases h; exact near_odd (Is.word _ INF (Nat.le_refl _)) (Is.word _ INF (Nat.le_refl _)) (Int.le_refl _) _ INF INF_lt (Nat.le_refl _)
    · cases h
  obtain ⟨lo, hi, k2, rfl, rfl⟩ := H.num rfl (by omega) (by omega)
  obtain ⟨z, g1, g2⟩ := sqrt_fin r (by omega) (by omega)
  rw [g1] at ho
  rcases ho with h | ⟨h, _⟩
  · cases h; exact near_lohi (Sq_anti _) k2 g2 false _ (.inl rfl)
  · cases h
end Go.Proofs.Ytacnclofbnafiaa
