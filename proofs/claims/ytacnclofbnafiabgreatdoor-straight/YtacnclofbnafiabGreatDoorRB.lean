import Derived.Test.YtacnclofbnafiabGreatDoorR5
import Derived.Test.YtacnclofbnafiabGreatDoorDA
import Derived.Test.YtacnclofbnafiabGreatDoorWA
namespace Go.Proofs.YtacnclofbnafiabGreatDoor
open Go.RowKit Fl

/-- What the document's rounding of finite numbers wants to know. -/
structure RefIn (op : Int) (X Y : Nat) (E : Int → Int) (D P : Nat) : Prop where
  anti : AntiI E
  side : ∀ s z, z < INF → ∀ w, Calls Tryz.prog 165 #[.int .i64 op, .float .f64 X, .float .f64 Y, .float .f64 (W s z)] w
      fun e w' => e = .returned (.int .i64 (E (V s z)).sign) ∧ Below w.heap.size w w'
  down : DownOk E D
  up : UpOk E P
theorem down_eq {op : Int} {X Y D P : Nat} {E : Int → Int} (H : RefIn op X Y E D P) (s : Bool) (z : Nat) (hz : z ≤ INF) (w : World) :
    Calls Tryz.prog 157 #[.int .i64 op, .float .f64 X, .float .f64 Y, .float .f64 (W s z)] w
      fun e w' => e = .returned (.float .f64 D) ∧ Below w.heap.size w w' := by
  have key : ∃ s0 z0, z0 < INF ∧ (W s z = W s0 z0 ∨ (W s z = W false INF ∧ W s0 z0 = 9218868437227405311) ∨ (W s z = W true INF ∧ W s0 z0 = 18442240474082181119)) := by
    rcases Nat.lt_or_eq_of_le hz with h | h
    · exact ⟨s, z, h, .inl rfl⟩
    · cases s
      · exact ⟨false, 9218868437227405311, by have := MAX_eq; omega, .inr (.inl ⟨by rw [h], W_false _⟩)⟩
      · exact ⟨true, 9218868437227405311, by have := MAX_eq; omega, .inr (.inr ⟨by rw [h], W_low⟩)⟩
  obtain ⟨s0, z0, h1, h2⟩ := key
  refine (down_from op X Y E s0 z0 h1 H.side _ h2 w).mono ?_
  rintro e w' ⟨⟨x, rfl, hx⟩, hb⟩
  rw [DownOk.unique H.anti hx H.down]
  exact ⟨rfl, hb⟩
theorem DownOk.canon {E : Int → Int} {D : Nat} (h : DownOk E D) : (D = W true INF ∧ ∃ mx, mx + 1 = INF ∧ E (V true mx) < 0) ∨
    ∃ s z, D = W s z ∧ D = pw s z ∧ z < INF ∧ 0 ≤ E (V s z) ∧ ((s = false ∧ z + 1 = INF) ∨ E (V (abv s z).1 (abv s z).2) < 0) := by
  rcases h with h | ⟨s, z, h1, h2, h3, h4⟩
  · exact .inl h
  · right
    rcases Nat.eq_zero_or_pos z with e | e
    · subst e
      have e1 : pw s 0 = 0 := by unfold pw; rw [if_pos rfl]
      have e2 : pw false 0 = 0 := by unfold pw; rw [if_pos rfl]
      have e3 : abv s 0 = abv false 0 := by unfold abv; simp
      refine ⟨false, 0, by rw [h1, e1, W_zero], by rw [h1, e1, e2], h2, by rw [V_zero] at h3 ⊢; exact h3, ?_⟩
      rw [e3] at h4
      rcases h4 with ⟨_, h⟩ | h
      · exfalso; rw [INF_eq] at h; omega
      · exact .inr h
    · exact ⟨s, z, by rw [h1, pw_W _ _ (by omega)], h1, h2, h3, h4⟩
theorem up_eq {op : Int} {X Y D P : Nat} {E : Int → Int} (H : RefIn op X Y E D P) (s : Bool) (z : Nat) (hz : z ≤ INF) (w : World) :
    Calls Tryz.prog 158 #[.int .i64 op, .float .f64 X, .float .f64 Y, .float .f64 (W s z)] w
      fun e w' => e = .returned (.float .f64 P) ∧ Below w.heap.size w w' := by
  have hdn := down_eq H s z hz
  generalize W s z = R at *
  rcases H.down.canon with ⟨hD, mx, hm, hE⟩ | ⟨s1, z1, hD, hDp, hz1, hE, hn⟩
  · have hP : P = 18442240474082181119 := by
      have := UpOk.unique H.anti H.up (up_low mx hm hE)
      have e : mx = 9218868437227405311 := by have := MAX_eq; omega
      rw [this, e, W_low]
    have hlow := order_low true INF (Nat.le_refl _)
    rw [← hD] at hlow
    have hlow' : (Ieee.double.order D 18442240474082181119 == some .lt) = true := by rw [hlow]; simp
    rw [hP]
    clear hD hE hm hP H hlow hz
    go_enter Tryz.func158, Tryz.ntmps158
    go_wp2_with (go_at_call 157; refine (hdn _).mono ?_; rintro e w1 ⟨rfl, hb⟩)
    go_ret
    exact ⟨rfl, hb⟩
  · have hlow := order_low s1 z1 (Nat.le_of_lt hz1)
    rw [decide_eq_false (by omega), Bool.and_false] at hlow
    have hsd := H.side s1 z1 hz1
    have hab := above_any s1 z1 hz1
    have hadd0 : Ieee.double.add (W (abv s1 z1).1 (abv s1 z1).2) 0 = some (pw (abv s1 z1).1 (abv s1 z1).2) := by
      obtain ⟨a1, a2⟩ := abv_le s1 z1 hz1
      rcases Nat.lt_or_eq_of_le a1 with g | g
      · exact add_zero_W _ _ g
      · rw [(a2 g).1, g]
        have := add_inf_l false false 0 INF_pos
        rw [W_zero] at this
        rw [this, pw_W _ _ (by have := INF_pos; omega)]
    have hadd := fun t' w => run_float_arith (P := Tryz.prog) w .add t' .f64 _ _ _ hadd0
    rw [hD] at hdn
    by_cases h0 : E (V s1 z1) = 0
    · have hP : P = W s1 z1 := by
        rw [UpOk.unique H.anti H.up (up_same H.anti s1 z1 hz1 h0), ← hDp, hD]
      rw [h0] at hsd
      rw [hP]
      clear hP H hE hn hab hadd hadd0 hD hDp hz hz1 h0
      go_enter Tryz.func158, Tryz.ntmps158
      go_wp2_with (first
        | (go_at_call 157; refine (hdn _).mono ?_; rintro e w1 ⟨rfl, hb⟩)
        | (go_at_call 165; refine (hsd _).mono ?_; rintro e w2 ⟨rfl, hb2⟩))
      go_ret
      exact ⟨rfl, hb.trans (hb2.mono hb.size)⟩
    · have hP : P = pw (abv s1 z1).1 (abv s1 z1).2 := UpOk.unique H.anti H.up (up_next s1 z1 hz1 (by omega) hn)
      have hs1 : (E (V s1 z1)).sign = 1 := Int.sign_eq_one_of_pos (by omega)
      rw [hs1] at hsd
      rw [hP]
      clear hP H hE hn hadd0 hD hDp hz hz1 h0 hs1
      go_enter Tryz.func158, Tryz.ntmps158
      go_wp2_with (first
        | (go_at_call 157; refine (hdn _).mono ?_; rintro e w1 ⟨rfl, hb⟩)
        | (go_at_call 167; refine (hab _).mono ?_; rintro e w3 ⟨rfl, rfl⟩)
        | (go_at_call 165; refine (hsd _).mono ?_; rintro e w2 ⟨rfl, hb2⟩))
      go_ret
      exact ⟨rfl, hb.trans (hb2.mono hb.size)⟩
/-- DOWN or UP. -/
def eiB (lower : Bool) (D P : Nat) : Nat := if lower then D else P
theorem round_eq {op : Int} {X Y D P : Nat} {E : Int → Int} (H : RefIn op X Y E D P) (lower s : Bool) (z : Nat) (hz : z ≤ INF) (w : World) :
    Calls Tryz.prog 143 #[.bool lower, .int .i64 op, .float .f64 X, .float .f64 Y, .float .f64 (W s z)] w
      fun e w' => e = .returned (.float .f64 (eiB lower D P)) ∧ Below w.heap.size w w' := by
  have hdn := down_eq H s z hz
  have hup := up_eq H s z hz
  clear H
  cases lower
  · go_enter Tryz.func143, Tryz.ntmps143
    go_wp2_with (go_at_call 158; refine (hup _).mono ?_; rintro e w1 ⟨rfl, hb⟩)
    go_ret
    exact ⟨rfl, hb⟩
  · go_enter Tryz.func143, Tryz.ntmps143
    go_wp2_with (go_at_call 157; refine (hdn _).mono ?_; rintro e w1 ⟨rfl, hb⟩)
    go_ret
    exact ⟨rfl, hb⟩
theorem either_any (lower : Bool) (D P : Nat) (w : World) :
    Calls Tryz.prog 142 #[.bool lower, .float .f64 D, .float .f64 P] w fun e w' => e = .returned (.float .f64 (eiB lower D P)) ∧ w' = w := by
  cases lower
  all_goals
    go_enter Tryz.func142, Tryz.ntmps142
    go_wp2
    go_ret
    exact ⟨rfl, rfl⟩
theorem inf_any (s : Bool) (z : Nat) (hz : z ≤ INF) (w : World) :
    Calls Tryz.prog 45 #[.float .f64 (W s z)] w fun e w' => e = .returned (.bool (decide (z = INF))) ∧ w' = w := by
  have h1 := order_high s z hz
  have h2 := order_low s z hz
  generalize decide (z = INF) = b at *
  clear hz
  cases s <;> cases b
  all_goals
    go_enter Tryz.func45, Tryz.ntmps45
    go_wp2
    go_ret
    exact ⟨rfl, rfl⟩
end Go.Proofs.YtacnclofbnafiabGreatDoor

namespace Go.Proofs.YtacnclofbnafiabGreatDoor
open Go.RowKit Fl

theorem ne_nan (s : Bool) (r : Nat) (h : INF < r) (h' : r < 9223372036854775808) : (Ieee.double.order (W s r) (W s r) != some .eq) = true := by
  rw [order_nan_l s r _ h h']; rfl
theorem ne_num (s : Bool) (r : Nat) (h : r ≤ INF) : (Ieee.double.order (W s r) (W s r) != some .eq) = false := by
  rw [order_self s r h]; rfl
theorem ne_infs (s t : Bool) (r q : Nat) (hr : r = INF) (hq : q = INF) : (Ieee.double.order (W s r) (W t q) != some .eq) = (s != t) := by
  rw [hr, hq, order_inf_inf]; cases s <;> cases t <;> rfl

theorem refAdd_all (s t lower : Bool) (r q : Nat) (hr : r < 9223372036854775808) (hq : q < 9223372036854775808) (h : INF < r ∨ INF < q ∨ (r = INF ∧ q = INF ∧ s ≠ t)) (w : World) :
    Calls Tryz.prog 107 #[.float .f64 (W s r), .float .f64 (W t q), .bool lower] w
      fun e w' => e = .returned (.float .f64 (eiB lower (W true INF) (W false INF))) ∧ w' = w := by
  have i1 := inf_neg
  have i2 := inf_pos
  generalize W true INF = I1 at *
  generalize W false INF = I2 at *
  by_cases h1 : INF < r
  · have n1 := ne_nan s r h1 hr
    clear h h1
    go_enter Tryz.func107, Tryz.ntmps107
    go_wp2_with fail
    go_at_call 141
    refine (i1 _).mono ?_
    rintro e w1 ⟨rfl, rfl⟩
    go_wp2_with fail
    go_at_call 141
    refine (i2 _).mono ?_
    rintro e w1 ⟨rfl, rfl⟩
    go_wp2_with (go_at_call 142; refine (either_any _ _ _ _).mono ?_; rintro e w' ⟨rfl, rfl⟩)
    go_ret
    exact ⟨rfl, rfl⟩
  · have n1 := ne_num s r (by omega)
    by_cases h2 : INF < q
    · have n2 := ne_nan t q h2 hq
      clear h h1 h2
      go_enter Tryz.func107, Tryz.ntmps107
      go_wp2_with fail
      go_at_call 141
      refine (i1 _).mono ?_
      rintro e w1 ⟨rfl, rfl⟩
      go_wp2_with fail
      go_at_call 141
      refine (i2 _).mono ?_
      rintro e w1 ⟨rfl, rfl⟩
      go_wp2_with (go_at_call 142; refine (either_any _ _ _ _).mono ?_; rintro e w' ⟨rfl, rfl⟩)
      go_ret
      exact ⟨rfl, rfl⟩
    · have n2 := ne_num t q (by omega)
      obtain ⟨k1, k2, k3⟩ : r = INF ∧ q = INF ∧ s ≠ t := by
        rcases h with h | h | h
        · exact absurd h h1
        · exact absurd h h2
        · exact h
      have n3 := ne_infs s t r q k1 k2
      have e3 : (s != t) = true := by cases s <;> cases t <;> simp at k3 ⊢
      rw [e3] at n3
      have d1 : decide (r = INF) = true := decide_eq_true k1
      have d2 : decide (q = INF) = true := decide_eq_true k2
      have r' : r ≤ INF := by omega
      have q' : q ≤ INF := by omega
      clear h h1 h2 k1 k2 k3 e3
      go_enter Tryz.func107, Tryz.ntmps107
      go_wp2_with (go_at_call 45; refine (inf_any _ _ (by assumption) _).mono ?_; rintro e w' ⟨rfl, rfl⟩)
      go_at_call 141
      refine (i1 _).mono ?_
      rintro e w1 ⟨rfl, rfl⟩
      go_wp2_with fail
      go_at_call 141
      refine (i2 _).mono ?_
      rintro e w1 ⟨rfl, rfl⟩
      go_wp2_with (go_at_call 142; refine (either_any _ _ _ _).mono ?_; rintro e w' ⟨rfl, rfl⟩)
      go_ret
      exact ⟨rfl, rfl⟩
theorem refAdd_inf (s t u lower : Bool) (r q : Nat) (r' : r ≤ INF) (q' : q ≤ INF) (h : r = INF ∨ q = INF) (hst : r = INF → q = INF → s = t) (ha : Ieee.double.add (W s r) (W t q) = some (W u INF)) (w : World) :
    Calls Tryz.prog 107 #[.float .f64 (W s r), .float .f64 (W t q), .bool lower] w
      fun e w' => e = .returned (.float .f64 (W u INF)) ∧ w' = w := by
  have hadd := fun t' w => run_float_arith (P := Tryz.prog) w .add t' .f64 _ _ _ ha
  have n1 := ne_num s r r'
  have n2 := ne_num t q q'
  generalize W u INF = A at *
  clear ha
  by_cases h1 : r = INF
  · have d1 : decide (r = INF) = true := decide_eq_true h1
    by_cases h2 : q = INF
    · have d2 : decide (q = INF) = true := decide_eq_true h2
      have n3 := ne_infs s t r q h1 h2
      have e3 : (s != t) = false := by rw [hst h1 h2]; simp
      rw [e3] at n3
      clear h h1 h2 hst e3
      go_enter Tryz.func107, Tryz.ntmps107
      go_wp2_with (go_at_call 45; refine (inf_any _ _ (by assumption) _).mono ?_; rintro e w' ⟨rfl, rfl⟩)
      go_ret
      exact ⟨rfl, rfl⟩
    · have d2 : decide (q = INF) = false := decide_eq_false h2
      clear h h1 h2 hst
      go_enter Tryz.func107, Tryz.ntmps107
      go_wp2_with (go_at_call 45; refine (inf_any _ _ (by assumption) _).mono ?_; rintro e w' ⟨rfl, rfl⟩)
      go_ret
      exact ⟨rfl, rfl⟩
  · have d1 : decide (r = INF) = false := decide_eq_false h1
    have d2 : decide (q = INF) = true := decide_eq_true (by omega)
    clear h h1 hst
    go_enter Tryz.func107, Tryz.ntmps107
    go_wp2_with (go_at_call 45; refine (inf_any _ _ (by assumption) _).mono ?_; rintro e w' ⟨rfl, rfl⟩)
    go_ret
    exact ⟨rfl, rfl⟩
theorem refAdd_num (s t u lower : Bool) (r q z D P : Nat) (E : Int → Int) (r' : r < INF) (q' : q < INF) (hz : z ≤ INF) (H : RefIn 0 (W s r) (W t q) E D P) (ha : Ieee.double.add (W s r) (W t q) = some (W u z)) (w : World) :
    Calls Tryz.prog 107 #[.float .f64 (W s r), .float .f64 (W t q), .bool lower] w
      fun e w' => e = .returned (.float .f64 (eiB lower D P)) ∧ Below w.heap.size w w' := by
  have hadd := fun t' w => run_float_arith (P := Tryz.prog) w .add t' .f64 _ _ _ ha
  have hrd := round_eq H lower u z hz
  have r1 := Nat.le_of_lt r'
  have q1 := Nat.le_of_lt q'
  have n1 := ne_num s r r1
  have n2 := ne_num t q q1
  have d1 : decide (r = INF) = false := decide_eq_false (by omega)
  have d2 : decide (q = INF) = false := decide_eq_false (by omega)
  clear ha H hz r' q'
  go_enter Tryz.func107, Tryz.ntmps107
  go_wp2_with (first
    | (go_at_call 45; refine (inf_any _ _ (by assumption) _).mono ?_; rintro e w' ⟨rfl, rfl⟩)
    | (go_at_call 143; refine (hrd _).mono ?_; rintro e w1 ⟨rfl, hb⟩))
  go_ret
  exact ⟨rfl, hb⟩
theorem refAdd_any (s t lower : Bool) (r q D P : Nat) (hr : r < 9223372036854775808) (hq : q < 9223372036854775808) (H : AddSpec s r t q D P) (w : World) :
    Calls Tryz.prog 107 #[.float .f64 (W s r), .float .f64 (W t q), .bool lower] w
      fun e w' => e = .returned (.float .f64 (eiB lower D P)) ∧ Below w.heap.size w w' := by
  have lift : ∀ {x}, Calls Tryz.prog 107 #[.float .f64 (W s r), .float .f64 (W t q), .bool lower] w (fun e w' => e = .returned (.float .f64 x) ∧ w' = w) → x = eiB lower D P →
      Calls Tryz.prog 107 #[.float .f64 (W s r), .float .f64 (W t q), .bool lower] w (fun e w' => e = .returned (.float .f64 (eiB lower D P)) ∧ Below w.heap.size w w') :=
    fun h hx => h.mono fun e w' ⟨he, hw⟩ => ⟨hx ▸ he, hw ▸ Below.refl _ _⟩
  have ei : ∀ x : Nat, x = eiB lower x x := fun x => by unfold eiB; split <;> rfl
  by_cases h0 : INF < r ∨ INF < q ∨ (r = INF ∧ q = INF ∧ s ≠ t)
  · obtain ⟨rfl, rfl⟩ := H.all h0
    exact lift (refAdd_all s t lower r q hr hq h0 w) rfl
  have h1 : r ≤ INF := Nat.not_lt.1 fun h => h0 (.inl h)
  have h2 : q ≤ INF := Nat.not_lt.1 fun h => h0 (.inr (.inl h))
  have hst : r = INF → q = INF → s = t := fun a b => Classical.byContradiction fun c => h0 (.inr (.inr ⟨a, b, c⟩))
  by_cases h3 : r = INF
  · obtain ⟨rfl, rfl⟩ := H.inf_l h3 h2 (hst h3)
    refine lift (refAdd_inf s t s lower r q h1 h2 (.inl h3) hst ?_ w) (ei _)
    by_cases h4 : q = INF
    · rw [h3, h4, ← hst h3 h4]; exact add_inf_inf s
    · rw [h3]; exact add_inf_l s t q (by omega)
  by_cases h4 : q = INF
  · obtain ⟨rfl, rfl⟩ := H.inf_r (by omega) h4
    exact lift (refAdd_inf s t t lower r q h1 h2 (.inr h4) hst (by rw [h4]; exact add_inf_r t s r (by omega)) w) (ei _)
  have hrI : r < INF := by omega
  have hqI : q < INF := by omega
  obtain ⟨sg, lo, hi, k1, k2, rfl, rfl⟩ := H.num hrI hqI
  obtain ⟨u, z, g1, g2, _⟩ := add_fin s t r q hrI hqI
  obtain ⟨o1, o2⟩ := lohi_ok (Ep_anti _) (link_p sg _ k1) k2
  exact refAdd_num s t u lower r q z _ _ _ hrI hqI g2.1 ⟨Ep_anti (V s r + V t q), fun s' z' hz' => Side_plus s t s' r q z' hrI hqI hz', o1, o2⟩ g1 w

-- Mul
theorem refMul_nan (s t lower : Bool) (r q : Nat) (hr : r < 9223372036854775808) (hq : q < 9223372036854775808) (h : INF < r ∨ INF < q) (w : World) :
    Calls Tryz.prog 108 #[.float .f64 (W s r), .float .f64 (W t q), .bool lower] w
      fun e w' => e = .returned (.float .f64 (eiB lower (W true INF) (W false INF))) ∧ w' = w := by
  have i1 := inf_neg
  have i2 := inf_pos
  generalize W true INF = I1 at *
  generalize W false INF = I2 at *
  by_cases h1 : INF < r
  · have n1 := ne_nan s r h1 hr
    clear h h1
    go_enter Tryz.func108, Tryz.ntmps108
    go_wp2_with fail
    go_at_call 141
    refine (i1 _).mono ?_
    rintro e w1 ⟨rfl, rfl⟩
    go_wp2_with fail
    go_at_call 141
    refine (i2 _).mono ?_
    rintro e w1 ⟨rfl, rfl⟩
    go_wp2_with (go_at_call 142; refine (either_any _ _ _ _).mono ?_; rintro e w' ⟨rfl, rfl⟩)
    go_ret
    exact ⟨rfl, rfl⟩
  · have n1 := ne_num s r (by omega)
    have n2 := ne_nan t q (by omega) hq
    clear h h1
    go_enter Tryz.func108, Tryz.ntmps108
    go_wp2_with fail
    go_at_call 141
    refine (i1 _).mono ?_
    rintro e w1 ⟨rfl, rfl⟩
    go_wp2_with fail
    go_at_call 141
    refine (i2 _).mono ?_
    rintro e w1 ⟨rfl, rfl⟩
    go_wp2_with (go_at_call 142; refine (either_any _ _ _ _).mono ?_; rintro e w' ⟨rfl, rfl⟩)
    go_ret
    exact ⟨rfl, rfl⟩
theorem refMul_zero (s t lower : Bool) (r q : Nat) (r' : r ≤ INF) (q' : q ≤ INF) (h : r = 0 ∨ q = 0) (w : World) :
    Calls Tryz.prog 108 #[.float .f64 (W s r), .float .f64 (W t q), .bool lower] w
      fun e w' => e = .returned (.float .f64 0) ∧ w' = w := by
  have n1 := ne_num s r r'
  have n2 := ne_num t q q'
  have z1 := order_zero s r (fin_lt r')
  have z2 := order_zero t q (fin_lt q')
  by_cases h1 : r = 0
  · rw [decide_eq_true h1] at z1
    clear h h1 z2
    go_enter Tryz.func108, Tryz.ntmps108
    go_wp2_with fail
    go_ret
    exact ⟨rfl, rfl⟩
  · rw [decide_eq_false h1] at z1
    rw [decide_eq_true (by omega)] at z2
    clear h h1
    go_enter Tryz.func108, Tryz.ntmps108
    go_wp2_with fail
    go_ret
    exact ⟨rfl, rfl⟩
theorem refMul_inf (s t u lower : Bool) (r q : Nat) (hr0 : 0 < r) (hq0 : 0 < q) (r' : r ≤ INF) (q' : q ≤ INF) (h : r = INF ∨ q = INF) (ha : Ieee.double.mul (W s r) (W t q) = some (W u INF)) (w : World) :
    Calls Tryz.prog 108 #[.float .f64 (W s r), .float .f64 (W t q), .bool lower] w
      fun e w' => e = .returned (.float .f64 (W u INF)) ∧ w' = w := by
  have hadd := fun t' w => run_float_arith (P := Tryz.prog) w .mul t' .f64 _ _ _ ha
  have n1 := ne_num s r r'
  have n2 := ne_num t q q'
  have z1 := order_ne_zero s r hr0 (fin_lt r')
  have z2 := order_ne_zero t q hq0 (fin_lt q')
  generalize W u INF = A at *
  clear ha
  by_cases h1 : r = INF
  · have d1 : decide (r = INF) = true := decide_eq_true h1
    clear h h1
    go_enter Tryz.func108, Tryz.ntmps108
    go_wp2_with (go_at_call 45; refine (inf_any _ _ (by assumption) _).mono ?_; rintro e w' ⟨rfl, rfl⟩)
    go_ret
    exact ⟨rfl, rfl⟩
  · have d1 : decide (r = INF) = false := decide_eq_false h1
    have d2 : decide (q = INF) = true := decide_eq_true (by omega)
    clear h h1
    go_enter Tryz.func108, Tryz.ntmps108
    go_wp2_with (go_at_call 45; refine (inf_any _ _ (by assumption) _).mono ?_; rintro e w' ⟨rfl, rfl⟩)
    go_ret
    exact ⟨rfl, rfl⟩
theorem refMul_num (s t u lower : Bool) (r q z D P : Nat) (E : Int → Int) (hr0 : 0 < r) (hq0 : 0 < q) (r' : r < INF) (q' : q < INF) (hz : z ≤ INF) (H : RefIn 1 (W s r) (W t q) E D P) (ha : Ieee.double.mul (W s r) (W t q) = some (W u z)) (w : World) :
    Calls Tryz.prog 108 #[.float .f64 (W s r), .float .f64 (W t q), .bool lower] w
      fun e w' => e = .returned (.float .f64 (eiB lower D P)) ∧ Below w.heap.size w w' := by
  have hadd := fun t' w => run_float_arith (P := Tryz.prog) w .mul t' .f64 _ _ _ ha
  have hrd := round_eq H lower u z hz
  have r1 := Nat.le_of_lt r'
  have q1 := Nat.le_of_lt q'
  have n1 := ne_num s r r1
  have n2 := ne_num t q q1
  have z1 := order_ne_zero s r hr0 (fin_lt r1)
  have z2 := order_ne_zero t q hq0 (fin_lt q1)
  have d1 : decide (r = INF) = false := decide_eq_false (by omega)
  have d2 : decide (q = INF) = false := decide_eq_false (by omega)
  clear ha H hz r' q'
  go_enter Tryz.func108, Tryz.ntmps108
  go_wp2_with (first
    | (go_at_call 45; refine (inf_any _ _ (by assumption) _).mono ?_; rintro e w' ⟨rfl, rfl⟩)
    | (go_at_call 143; refine (hrd _).mono ?_; rintro e w1 ⟨rfl, hb⟩))
  go_ret
  exact ⟨rfl, hb⟩
theorem refMul_any (s t lower : Bool) (r q D P : Nat) (hr : r < 9223372036854775808) (hq : q < 9223372036854775808) (H : MulSpec s r t q D P) (w : World) :
    Calls Tryz.prog 108 #[.float .f64 (W s r), .float .f64 (W t q), .bool lower] w
      fun e w' => e = .returned (.float .f64 (eiB lower D P)) ∧ Below w.heap.size w w' := by
  have lift : ∀ {x}, Calls Tryz.prog 108 #[.float .f64 (W s r), .float .f64 (W t q), .bool lower] w (fun e w' => e = .returned (.float .f64 x) ∧ w' = w) → x = eiB lower D P →
      Calls Tryz.prog 108 #[.float .f64 (W s r), .float .f64 (W t q), .bool lower] w (fun e w' => e = .returned (.float .f64 (eiB lower D P)) ∧ Below w.heap.size w w') :=
    fun h hx => h.mono fun e w' ⟨he, hw⟩ => ⟨hx ▸ he, hw ▸ Below.refl _ _⟩
  have ei : ∀ x : Nat, x = eiB lower x x := fun x => by unfold eiB; split <;> rfl
  by_cases h0 : INF < r ∨ INF < q
  · obtain ⟨rfl, rfl⟩ := H.nan h0
    exact lift (refMul_nan s t lower r q hr hq h0 w) rfl
  by_cases h1 : r = 0 ∨ q = 0
  · obtain ⟨rfl, rfl⟩ := H.zero (by omega) (by omega) h1
    exact lift (refMul_zero s t lower r q (by omega) (by omega) h1 w) (ei _)
  by_cases h2 : r = INF ∨ q = INF
  · obtain ⟨rfl, rfl⟩ := H.inf (by omega) (by omega) (by omega) (by omega) h2
    refine lift (refMul_inf s t (s ^^ t) lower r q (by omega) (by omega) (by omega) (by omega) h2 ?_ w) (ei _)
    rcases h2 with h | h
    · rw [h]; exact mul_inf_l s t q (by omega) (by omega)
    · rw [h]; exact mul_inf_r t s r (by omega) (by omega)
  have hrI : r < INF := by omega
  have hqI : q < INF := by omega
  obtain ⟨lo, hi, k2, rfl, rfl⟩ := H.num (by omega) (by omega) hrI hqI
  obtain ⟨z, g1, g2⟩ := mul_fin s t r q hrI hqI
  obtain ⟨o1, o2⟩ := lohi_ok (Et_anti _) (link_t s t r q) k2
  exact refMul_num s t _ lower r q z _ _ _ (by omega) (by omega) hrI hqI g2.1 ⟨Et_anti (V s r * V t q), fun s' z' hz' => Side_times s t s' r q z' hrI hqI hz', o1, o2⟩ g1 w
end Go.Proofs.YtacnclofbnafiabGreatDoor

namespace Go.Proofs.YtacnclofbnafiabGreatDoor
open Go.RowKit Fl

theorem same_any (x : Nat) (hx : Ieee.double.order x x = some .eq) (w : World) :
    Calls Tryz.prog 61 #[.float .f64 x, .float .f64 x] w fun e w' => e = .returned (.bool true) ∧ w' = w := by
  have h : (Ieee.double.order x x == some .eq) = true := by rw [hx]; rfl
  clear hx
  go_enter Tryz.func61, Tryz.ntmps61
  go_wp2
  go_ret
  exact ⟨rfl, rfl⟩
end Go.Proofs.YtacnclofbnafiabGreatDoor
