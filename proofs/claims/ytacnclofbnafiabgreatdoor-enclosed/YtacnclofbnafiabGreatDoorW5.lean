import Derived.Test.YtacnclofbnafiabGreatDoorWB
import Derived.Deep.QuietTactic
import Derived.BigQuiet
namespace Go.Proofs.YtacnclofbnafiabGreatDoor
open Go.RowKit Fl

theorem bl_drewN {B : Nat} {a w : World} (h : Below B a w) (n : Nat) : Below B a (w.drewN n) := h.trans ⟨rfl, rfl, rfl, Nat.le_refl _, fun _ _ => rfl⟩
theorem side_ne (L T Y x : Nat) (n : Int) (o : Ordering) (hn1 : -5000 ≤ n) (hn2 : n ≤ 5000) (ho : o ≠ .eq)
    (hc : ∀ w, Calls Tryz.prog 168 #[.float .f64 x, .int .i64 (-n)] w fun e w' => e = .returned (.float .f64 Y) ∧ w' = w)
    (hL : Ieee.double.order L L = some .eq) (hY : Ieee.double.order Y Y = some .eq) (hLY : Ieee.double.order L Y = some o) (w : World) :
    Calls Tryz.prog 169 #[.agg #[.float .f64 L, .float .f64 T, .int .i64 n], .float .f64 x] w
      fun e w' => e = .returned (.int .i64 (cmpI o)) ∧ Below w.heap.size w w' := by
  have hcc := compare_any L Y o hL hY hLY
  have hne : ((cmpI o : Int) == 0) = false := by cases o <;> simp [cmpI] at ho ⊢
  clear hL hY hLY ho
  generalize cmpI o = c at *
  go_enter Tryz.func169, Tryz.ntmps169
  go_wp2
  go_quiet ((first
    | (go_at_call 168; exact Calls.quiet_of_same (hc _))
    | (go_at_call 175; exact Calls.quiet_of_same (hcc _))))
  go_wp2
  go_ret
  exact ⟨rfl, bl_drewN ((Below.refl _ _).alloc (Nat.le_refl _) _) _⟩
theorem side_eq (L T Y x : Nat) (n : Int) (o : Ordering) (hn1 : -5000 ≤ n) (hn2 : n ≤ 5000)
    (hc : ∀ w, Calls Tryz.prog 168 #[.float .f64 x, .int .i64 (-n)] w fun e w' => e = .returned (.float .f64 Y) ∧ w' = w)
    (hL : Ieee.double.order L L = some .eq) (hY : Ieee.double.order Y Y = some .eq) (hLY : Ieee.double.order L Y = some .eq)
    (hT : Ieee.double.order T T = some .eq) (hT0 : Ieee.double.order T 0 = some o) (h00 : Ieee.double.order 0 0 = some .eq) (w : World) :
    Calls Tryz.prog 169 #[.agg #[.float .f64 L, .float .f64 T, .int .i64 n], .float .f64 x] w
      fun e w' => e = .returned (.int .i64 (cmpI o)) ∧ Below w.heap.size w w' := by
  have hcc := compare_any L Y .eq hL hY hLY
  have hct := compare_any T 0 o hT h00 hT0
  clear hL hY hLY hT hT0 h00
  rw [show cmpI .eq = 0 from rfl] at hcc
  generalize cmpI o = c at *
  go_enter Tryz.func169, Tryz.ntmps169
  go_wp2
  go_quiet ((first
    | (go_at_call 168; exact Calls.quiet_of_same (hc _))
    | (go_at_call 175; exact Calls.quiet_of_same (hcc _))))
  go_wp2_with (go_at_call 175; refine (hct _).mono ?_; rintro e w' ⟨rfl, rfl⟩)
  go_ret
  exact ⟨rfl, bl_drewN ((Below.refl _ _).alloc (Nat.le_refl _) _) _⟩
/-- SIDE, AS THE WALK OF BOUNDS WANTS IT. -/
theorem bounds_any (L T x d u : Nat) (n c : Int)
    (hx : ∀ w, Calls Tryz.prog 168 #[.float .f64 L, .int .i64 n] w fun e w' => e = .returned (.float .f64 x) ∧ w' = w)
    (hs : ∀ w, Calls Tryz.prog 169 #[.agg #[.float .f64 L, .float .f64 T, .int .i64 n], .float .f64 x] w
      fun e w' => e = .returned (.int .i64 c) ∧ Below w.heap.size w w')
    (hd : c < 0 → ∀ w, Calls Tryz.prog 170 #[.float .f64 x, .float .f64 (W true INF)] w fun e w' => e = .returned (.float .f64 d) ∧ w' = w)
    (hu : 0 < c → ∀ w, Calls Tryz.prog 170 #[.float .f64 x, .float .f64 (W false INF)] w fun e w' => e = .returned (.float .f64 u) ∧ w' = w)
    (d' u' x' : Nat)
    (pd : c < 0 → ∀ w, Calls Tryz.prog 136 #[.float .f64 d] w fun e w' => e = .returned (.float .f64 d') ∧ w' = w)
    (pu : 0 < c → ∀ w, Calls Tryz.prog 136 #[.float .f64 u] w fun e w' => e = .returned (.float .f64 u') ∧ w' = w)
    (px : ∀ w, Calls Tryz.prog 136 #[.float .f64 x] w fun e w' => e = .returned (.float .f64 x') ∧ w' = w)
    (w : World) :
    Calls Tryz.prog 162 #[.agg #[.float .f64 L, .float .f64 T, .int .i64 n]] w
      fun e w' => e = .returned (.tuple #[.float .f64 (if c < 0 then d' else x'), .float .f64 (if 0 < c then u' else x')]) ∧ Below w.heap.size w w' := by
  generalize hI1 : W true INF = I1 at *
  generalize hI2 : W false INF = I2 at *
  have i1 := inf_neg
  have i2 := inf_pos
  rw [hI1] at i1
  rw [hI2] at i2
  clear hI1 hI2
  rcases Int.lt_trichotomy c 0 with hc | hc | hc
  · have hd := hd hc
    have pd := pd hc
    have hu' : ¬ 0 < c := by omega
    rw [if_pos hc, if_neg hu']
    clear hu pu
    go_enter Tryz.func162, Tryz.ntmps162
    go_wp2_with (first
      | (go_at_call 168; refine (hx _).mono ?_; rintro e w' ⟨rfl, rfl⟩)
      | (go_at_call 141; refine (i1 _).mono ?_; rintro e w' ⟨rfl, rfl⟩)
      | (go_at_call 170; refine (hd _).mono ?_; rintro e w' ⟨rfl, rfl⟩)
      | (go_at_call 136; with_reducible refine (pd _).mono ?_; rintro e w' ⟨rfl, rfl⟩)
      | (go_at_call 136; with_reducible refine (px _).mono ?_; rintro e w' ⟨rfl, rfl⟩)
      | (go_at_call 169; refine (hs _).mono ?_; rintro e w' ⟨rfl, hb⟩))
    go_ret2
    exact ⟨rfl, ((Below.refl _ _).alloc (Nat.le_refl _) _).trans (hb.mono (by simp))⟩
  · subst hc
    rw [if_neg (by omega), if_neg (by omega)]
    clear hu pu hd pd
    go_enter Tryz.func162, Tryz.ntmps162
    go_wp2_with (first
      | (go_at_call 168; refine (hx _).mono ?_; rintro e w' ⟨rfl, rfl⟩)
      | (go_at_call 136; refine (px _).mono ?_; rintro e w' ⟨rfl, rfl⟩)
      | (go_at_call 169; refine (hs _).mono ?_; rintro e w' ⟨rfl, hb⟩))
    go_ret2
    exact ⟨rfl, ((Below.refl _ _).alloc (Nat.le_refl _) _).trans (hb.mono (by simp))⟩
  · have hu := hu hc
    have pu := pu hc
    have hd' : ¬ c < 0 := by omega
    rw [if_neg hd', if_pos hc]
    clear hd pd
    go_enter Tryz.func162, Tryz.ntmps162
    go_wp2_with (first
      | (go_at_call 168; refine (hx _).mono ?_; rintro e w' ⟨rfl, rfl⟩)
      | (go_at_call 141; refine (i2 _).mono ?_; rintro e w' ⟨rfl, rfl⟩)
      | (go_at_call 170; refine (hu _).mono ?_; rintro e w' ⟨rfl, rfl⟩)
      | (go_at_call 136; with_reducible refine (pu _).mono ?_; rintro e w' ⟨rfl, rfl⟩)
      | (go_at_call 136; with_reducible refine (px _).mono ?_; rintro e w' ⟨rfl, rfl⟩)
      | (go_at_call 169; refine (hs _).mono ?_; rintro e w' ⟨rfl, hb⟩))
    go_ret2
    exact ⟨rfl, ((Below.refl _ _).alloc (Nat.le_refl _) _).trans (hb.mono (by simp))⟩

theorem inc_W (s : Bool) (z : Nat) (h : z < INF) : inc (W s z) = W s (z + 1) := by
  rw [INF_eq] at h
  unfold inc; rw [IntKind.wrap_u64]; unfold W; split <;> omega
theorem dec_W (s : Bool) (z : Nat) (h0 : 0 < z) (h : z ≤ INF) : dec (W s z) = W s (z - 1) := by
  rw [INF_eq] at h
  unfold dec; rw [IntKind.wrap_u64]; unfold W; split <;> omega
/-- Away from 0. -/
theorem next_out (s : Bool) (z : Nat) (hz : z < INF) (w : World) :
    Calls Tryz.prog 170 #[.float .f64 (W s z), .float .f64 (W s INF)] w fun e w' => e = .returned (.float .f64 (W s (z + 1))) ∧ w' = w := by
  have hx := order_self s z (Nat.le_of_lt hz)
  have hy := order_self s INF (Nat.le_refl _)
  have hxy := order_mag s z INF (Nat.le_of_lt hz) (Nat.le_refl _)
  have hyx := order_mag s INF z (Nat.le_refl _) (Nat.le_of_lt hz)
  rw [Nat.compare_eq_lt.2 hz, Nat.compare_eq_gt.2 hz] at hxy hyx
  have hne : (Ieee.double.order (W s z) (W s INF) == some .eq) = false := by rw [hxy]; cases s <;> rfl
  rcases Nat.eq_zero_or_pos z with h0 | h0
  · subst h0
    exact next_zero _ _ s INF INF_lt rfl hx hy hne (order_zero_zero s) w
  · rw [← inc_W s z hz]
    refine next_plus _ _ _ _ hx hy hne hyx (order_zero_cmp s z h0 (Nat.le_of_lt hz)) ?_ w
    cases s
    · exact .inl ⟨rfl, rfl⟩
    · exact .inr ⟨rfl, rfl⟩
/-- Towards 0. -/
theorem next_in (s : Bool) (z : Nat) (h0 : 0 < z) (hz : z ≤ INF) (w : World) :
    Calls Tryz.prog 170 #[.float .f64 (W s z), .float .f64 (W (!s) INF)] w fun e w' => e = .returned (.float .f64 (W s (z - 1))) ∧ w' = w := by
  have hx := order_self s z hz
  have hy := order_self (!s) INF (Nat.le_refl _)
  obtain ⟨hxy, hyx⟩ := order_far s z hz
  have hne : (Ieee.double.order (W s z) (W (!s) INF) == some .eq) = false := by rw [hxy]; cases s <;> rfl
  rw [← dec_W s z h0 hz]
  refine next_minus _ _ _ _ hx hy hne hyx (order_zero_cmp s z h0 hz) ?_ w
  cases s
  · exact .inr ⟨rfl, rfl⟩
  · exact .inl ⟨rfl, rfl⟩

/-- DOWN and UP of a number of sign s between two rungs. -/
def dnW (s : Bool) (lo hi : Nat) : Nat := if s then pw true hi else pw false lo
def upW (s : Bool) (lo hi : Nat) : Nat := if s then pw true lo else pw false hi

/-- BOUNDS, of a neighbour W s z and the side c. -/
theorem bounds_near (s : Bool) (L T z : Nat) (n c : Int) (C : Nat → Int)
    (hx : ∀ w, Calls Tryz.prog 168 #[.float .f64 L, .int .i64 n] w fun e w' => e = .returned (.float .f64 (W s z)) ∧ w' = w)
    (hs : ∀ w, Calls Tryz.prog 169 #[.agg #[.float .f64 L, .float .f64 T, .int .i64 n], .float .f64 (W s z)] w
      fun e w' => e = .returned (.int .i64 c) ∧ Below w.heap.size w w')
    (hz : Faith C z) (h0 : 0 ≤ C 0) (m : Int) (hm : m = if s then -c else c)
    (hi : z = INF → m < 0) (hp : z < INF → 0 < m → 0 < C (M z)) (hq : z < INF → m < 0 → C (M z) < 0) (hr : z < INF → m = 0 → C (M z) = 0) :
    ∃ lo hi, LoHi C lo hi ∧ ∀ w, Calls Tryz.prog 162 #[.agg #[.float .f64 L, .float .f64 T, .int .i64 n]] w
      fun e w' => e = .returned (.tuple #[.float .f64 (dnW s lo hi), .float .f64 (upW s lo hi)]) ∧ Below w.heap.size w w' := by
  have hL := LoHi.of_near m hz h0 hi hp hq hr
  have hz1 := hz.1
  have hzI := INF_lt
  have hzp : m < 0 → 0 < z := by
    intro h
    rcases Nat.eq_zero_or_pos z with e | e
    · subst e; have := hq INF_pos h; rw [M_zero] at this; omega
    · exact e
  have hzl : 0 < m → z < INF := by
    intro h
    rcases Nat.lt_or_eq_of_le hz1 with e | e
    · exact e
    · have := hi e; omega
  refine ⟨_, _, hL, fun w => ?_⟩
  cases s with
  | false =>
    simp only [Bool.false_eq_true, if_false] at hm
    subst hm
    refine (bounds_any L T (W false z) (W false (z - 1)) (W false (z + 1)) n m hx hs (fun h => next_in false z (hzp h) hz1) (fun h => next_out false z (hzl h))
      _ _ _ (fun h => plain_any false (z - 1) (by omega)) (fun h => plain_any false (z + 1) (by have := hzl h; omega)) (plain_any false z (by omega)) w).mono ?_
    rintro e w' ⟨rfl, hb⟩
    refine ⟨?_, hb⟩
    unfold dnW upW
    simp only [Bool.false_eq_true, if_false]
    congr 4
    · split <;> rfl
    · split <;> rfl
  | true =>
    simp only [if_true] at hm
    have hc : c = -m := by omega
    subst hc
    refine (bounds_any L T (W true z) (W true (z + 1)) (W true (z - 1)) n (-m) hx hs (fun h => next_out true z (hzl (by omega))) (fun h => next_in true z (hzp (by omega)) hz1)
      _ _ _ (fun h => plain_any true (z + 1) (by have := hzl (by omega); omega)) (fun h => plain_any true (z - 1) (by omega)) (plain_any true z (by omega)) w).mono ?_
    rintro e w' ⟨rfl, hb⟩
    refine ⟨?_, hb⟩
    unfold dnW upW
    simp only [if_true]
    have e1 : (if -m < 0 then pw true (z + 1) else pw true z) = pw true (if 0 < m then z + 1 else z) := by
      by_cases h : 0 < m
      · rw [if_pos (by omega), if_pos h]
      · rw [if_neg (by omega), if_neg h]
    have e2 : (if 0 < -m then pw true (z - 1) else pw true z) = pw true (if m < 0 then z - 1 else z) := by
      by_cases h : m < 0
      · rw [if_pos (by omega), if_pos h]
      · rw [if_neg (by omega), if_neg h]
    rw [e1, e2]

/-- BOUNDS, OF A FRACTION THAT IS SCALED. 'o': how the tail stands to 0. -/
theorem bounds_scaled (s : Bool) (l T : Nat) (n : Int) (o : Ordering) (C C' : Nat → Int) (H : Scaled C C' n l) (hn1 : -5000 ≤ n) (hn2 : n ≤ 5000)
    (hT : Ieee.double.order T T = some .eq) (hT0 : Ieee.double.order T 0 = some o)
    (t1 : 0 < (if s then -cmpI o else cmpI o) → 0 < C' (M l)) (t2 : (if s then -cmpI o else cmpI o) < 0 → C' (M l) < 0) (t3 : cmpI o = 0 → C' (M l) = 0) :
    ∃ lo hi, LoHi C lo hi ∧ ∀ w, Calls Tryz.prog 162 #[.agg #[.float .f64 (W s l), .float .f64 T, .int .i64 n]] w
      fun e w' => e = .returned (.tuple #[.float .f64 (dnW s lo hi), .float .f64 (upW s lo hi)]) ∧ Below w.heap.size w w' := by
  have hl0 : 0 < l := lt_of_M (by rw [M_zero]; have := H.low; have := H.lt_low; omega)
  have hl1 : l < INF := by have := H.top; omega
  obtain ⟨z, hz, hx⟩ := Ldexp_any s l n hl0 hl1 hn1 hn2
  have hF := H.faith hz
  have h00 : Ieee.double.order 0 0 = some .eq := by have := order_self false 0 (Nat.zero_le _); rwa [W_zero] at this
  -- what the neighbour is at the fraction's scale
  obtain ⟨y, hy, hyc, g1, g2, g3, g4⟩ : ∃ y, y ≤ INF ∧ (∀ w, Calls Tryz.prog 168 #[.float .f64 (W s z), .int .i64 (-n)] w fun e w' => e = .returned (.float .f64 (W s y)) ∧ w' = w)
      ∧ (z < INF → y < l → 0 < C (M z)) ∧ (z < INF → l < y → C (M z) < 0) ∧ (z < INF → l = y → (0 ≤ C (M z) ↔ 0 ≤ C' (M l)) ∧ (C (M z) ≤ 0 ↔ C' (M l) ≤ 0)) ∧ (z = INF → l < y) := by
    rcases Nat.lt_or_eq_of_le hz.1 with hzI | hzI
    · rcases Nat.eq_zero_or_pos z with e | e
      · subst e
        exact ⟨0, Nat.zero_le _, Ldexp_zero s (-n), fun _ _ => by rw [M_zero]; exact H.pos, fun _ h => by omega, fun _ h => by omega, fun h => by omega⟩
      · obtain ⟨y, hy, hyc⟩ := Ldexp_any s z (-n) e hzI (by omega) (by omega)
        exact ⟨y, hy.1, hyc, fun _ h => H.side_gt hy h, fun _ h => H.side_lt hy h, fun _ h => H.side_eq e hy h, fun h => by omega⟩
    · subst hzI
      exact ⟨INF, Nat.le_refl _, Ldexp_inf s (-n), fun h => by omega, fun h => by omega, fun h => by omega, fun _ => hl1⟩
  have oL := order_self s l (Nat.le_of_lt hl1)
  have oY := order_self s y hy
  have oLY := order_mag s l y (Nat.le_of_lt hl1) hy
  rcases Nat.lt_trichotomy l y with h | h | h
  · rw [Nat.compare_eq_lt.2 h, Nat.compare_eq_gt.2 h] at oLY
    have hsd := side_ne (W s l) T (W s y) (W s z) n _ hn1 hn2 (by cases s <;> simp) hyc oL oY oLY
    refine bounds_near s (W s l) T z n _ C hx hsd hF (Int.le_of_lt H.pos) (-1) (by cases s <;> rfl) (fun _ => by omega) (fun _ h => by omega) (fun hz _ => g2 hz h) (fun _ h => by omega)
  · have oLY' : Ieee.double.order (W s l) (W s y) = some .eq := by rw [oLY, h]; cases s <;> simp
    have hsd := side_eq (W s l) T (W s y) (W s z) n o hn1 hn2 hyc oL oY oLY' hT hT0 h00
    refine bounds_near s (W s l) T z n _ C hx hsd hF (Int.le_of_lt H.pos) _ rfl (fun e => by have := g4 e; omega) (fun hz hm => ?_) (fun hz hm => ?_) (fun hz hm => ?_)
    · have := t1 hm
      obtain ⟨k1, k2⟩ := g3 hz h
      rcases Int.lt_or_le 0 (C (M z)) with k | k
      · exact k
      · have := k2.1 k; omega
    · have := t2 hm
      obtain ⟨k1, k2⟩ := g3 hz h
      rcases Int.lt_or_le (C (M z)) 0 with k | k
      · exact k
      · have := k1.1 k; omega
    · have := t3 (by cases s <;> simp at hm <;> omega)
      obtain ⟨k1, k2⟩ := g3 hz h
      have := k1.2 (by omega)
      have := k2.2 (by omega)
      omega
  · rw [Nat.compare_eq_lt.2 h, Nat.compare_eq_gt.2 h] at oLY
    have hsd := side_ne (W s l) T (W s y) (W s z) n _ hn1 hn2 (by cases s <;> simp) hyc oL oY oLY
    refine bounds_near s (W s l) T z n _ C hx hsd hF (Int.le_of_lt H.pos) 1 (by cases s <;> rfl) (fun e => by have := g4 e; omega) (fun hz _ => g1 hz h) (fun _ h => by omega) (fun _ h => by omega)
theorem cmpI_gt {E : Int} (h : 0 < cmpI (compare E 0)) : 0 < E := by
  rcases Int.lt_trichotomy E 0 with g | g | g
  · rw [Int.compare_eq_lt.2 g] at h; simp [cmpI] at h
  · subst g; simp [cmpI] at h
  · exact g
theorem cmpI_lt {E : Int} (h : cmpI (compare E 0) < 0) : E < 0 := by
  rcases Int.lt_trichotomy E 0 with g | g | g
  · exact g
  · subst g; simp [cmpI] at h
  · rw [Int.compare_eq_gt.2 g] at h; simp [cmpI] at h
theorem cmpI_eq {E : Int} (h : cmpI (compare E 0) = 0) : E = 0 := by
  rcases Int.lt_trichotomy E 0 with g | g | g
  · rw [Int.compare_eq_lt.2 g] at h; simp [cmpI] at h
  · exact g
  · rw [Int.compare_eq_gt.2 g] at h; simp [cmpI] at h
theorem cmp_pos {s : Bool} {E c : Int} (e : E = if s then -c else c) (h : 0 < (if s then -cmpI (compare E 0) else cmpI (compare E 0))) : 0 < c := by
  cases s
  · simp only [Bool.false_eq_true, if_false] at e h; have := cmpI_gt h; omega
  · simp only [if_true] at e h; have := cmpI_lt (E := E) (by omega); omega
theorem cmp_neg {s : Bool} {E c : Int} (e : E = if s then -c else c) (h : (if s then -cmpI (compare E 0) else cmpI (compare E 0)) < 0) : c < 0 := by
  cases s
  · simp only [Bool.false_eq_true, if_false] at e h; have := cmpI_lt h; omega
  · simp only [if_true] at e h; have := cmpI_gt (E := E) (by omega); omega
theorem cmp_zero {s : Bool} {E c : Int} (e : E = if s then -c else c) (h : cmpI (compare E 0) = 0) : c = 0 := by
  have := cmpI_eq h
  cases s
  · simp only [Bool.false_eq_true, if_false] at e; omega
  · simp only [if_true] at e; omega
end Go.Proofs.YtacnclofbnafiabGreatDoor
