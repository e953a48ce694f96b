import Derived.Test.YtacnclofbnafiaaR5
import Derived.Test.YtacnclofbnafiaaDA
import Derived.Test.YtacnclofbnafiaaW10
namespace Go.Proofs.Ytacnclofbnafiaa
open Go.RowKit Fl

/-- What the document's rounding of finite numbers wants to know. -/
structure RefIn (op : Int) (X Y : Nat) (E : Int → Int) (D P : Nat) : Prop where
  anti : AntiI E
  side : ∀ s z, z < INF → ∀ w, Calls Try.prog 55 #[.int .i64 op, .float .f64 X, .float .f64 Y, .float .f64 (W s z)] w
      fun e w' => e = .returned (.int .i64 (E (V s z)).sign) ∧ Below w.heap.size w w'
  down : DownOk E D
  up : UpOk E P
theorem down_eq {op : Int} {X Y D P : Nat} {E : Int → Int} (H : RefIn op X Y E D P) (s : Bool) (z : Nat) (hz : z ≤ INF) (w : World) :
    Calls Try.prog 135 #[.int .i64 op, .float .f64 X, .float .f64 Y, .float .f64 (W s z)] w
      fun e w' => e = .returned (.float .f64 D) ∧ Below w.heap.size w w' := by
  have key : ∃ s0 z0, z0 < INF ∧ (W s z = W s0 z0 ∨ (W s z = W false INF ∧ W s0 z0 = 9218868437227405311) ∨ (W s z = W true INF ∧ W s0 z0 = 18442240474082181119)) := by
    rcases Nat.lt_or_eq_of_le hz with h | h
    · exact ⟨s, z, h, .inl rfl⟩
    · cases s
      · exact ⟨false, 9218868437227405311, by have := MAX_eq; omega, .inr (.inl ⟨by rw [h], W_false _⟩)⟩
      · exact ⟨true, 9218868437227405311, by have := MAX_eq; omega, .inr (.inr ⟨by rw [h], W_low⟩)⟩
  obtain ⟨s0, z0, h1, h2⟩ := key
  refine (down_from op X Y E s0 z0 h1 H.side _ h2 w).mono ?_
  rintro e w' ⟨⟨x, rfl, hx⟩, hb⟩
  rw [DownOk.unique H.anti hx H.down]
  exact ⟨rfl, hb⟩
theorem DownOk.canon {E : Int → Int} {D : Nat} (h : DownOk E D) : (D = W true INF ∧ ∃ mx, mx + 1 = INF ∧ E (V true mx) < 0) ∨
    ∃ s z, D = W s z ∧ D = pw s z ∧ z < INF ∧ 0 ≤ E (V s z) ∧ ((s = false ∧ z + 1 = INF) ∨ E (V (abv s z).1 (abv s z).2) < 0) := by
  rcases h with h | ⟨s, z, h1, h2, h3, h4⟩
  · exact .inl h
  · right
    rcases Nat.eq_zero_or_pos z with e | e
    · subst e
      have e1 : pw s 0 = 0 := by unfold pw; rw [if_pos rfl]
      have e2 : pw false 0 = 0 := by unfold pw; rw [if_pos rfl]
      have e3 : abv s 0 = abv false 0 := by unfold abv; simp
      refine ⟨false, 0, by rw [h1, e1, W_zero], by rw [h1, e1, e2], h2, by rw [V_zero] at h3 ⊢; exact h3, ?_⟩
      rw [e3] at h4
      rcases h4 with ⟨_, h⟩ | h
      · exfalso; rw [INF_eq] at h; omega
      · exact .inr h
    · exact ⟨s, z, by rw [h1, pw_W _ _ (by omega)], h1, h2, h3, h4⟩
theorem up_eq {op : Int} {X Y D P : Nat} {E : Int → Int} (H : RefIn op X Y E D P) (s : Bool) (z : Nat) (hz : z ≤ INF) (w : World) :
    Calls Try.prog 136 #[.int .i64 op, .float .f64 X, .float .f64 Y, .float .f64 (W s z)] w
      fun e w' => e = .returned (.float .f64 P) ∧ Below w.heap.size w w' := by
  have hdn := down_eq H s z hz
  generalize W s z = R at *
  rcases H.down.canon with ⟨hD, mx, hm, hE⟩ | ⟨s1, z1, hD, hDp, hz1, hE, hn⟩
  · have hP : P = 18442240474082181119 := by
      have := UpOk.unique H.anti H.up (up_low mx hm hE)
      have e : mx = 9218868437227405311 := by have := MAX_eq; omega
      rw [this, e, W_low]
    have hlow := order_low true INF (Nat.le_refl _)
    rw [← hD] at hlow
    have hlow' : (Ieee.double.order D 18442240474082181119 == some .lt) = true := by rw [hlow]; simp
    rw [hP]
    clear hD hE hm hP H hlow hz
    go_enter Try.func136, Try.ntmps136
    go_wp2_with (go_at_call 135; refine (hdn _).mono ?_; rintro e w1 ⟨rfl, hb⟩)
    go_ret
    exact ⟨rfl, hb⟩
  · have hlow := order_low s1 z1 (Nat.le_of_lt hz1)
    rw [decide_eq_false (by omega), Bool.and_false] at hlow
    have hsd := H.side s1 z1 hz1
    have hab := above_any s1 z1 hz1
    have hadd0 : Ieee.double.add (W (abv s1 z1).1 (abv s1 z1).2) 0 = some (pw (abv s1 z1).1 (abv s1 z1).2) := by
      obtain ⟨a1, a2⟩ := abv_le s1 z1 hz1
      rcases Nat.lt_or_eq_of_le a1 with g | g
      · exact add_zero_W _ _ g
      · rw [(a2 g).1, g]
        have := add_inf_l false false 0 INF_pos
        rw [W_zero] at this
        rw [this, pw_W _ _ (by have := INF_pos; omega)]
    have hadd := fun t' w => run_float_arith (P := Try.prog) w .add t' .f64 _ _ _ hadd0
    rw [hD] at hdn
    by_cases h0 : E (V s1 z1) = 0
    · have hP : P = W s1 z1 := by
        rw [UpOk.unique H.anti H.up (up_same H.anti s1 z1 hz1 h0), ← hDp, hD]
      rw [h0] at hsd
      rw [hP]
      clear hP H hE hn hab hadd hadd0 hD hDp hz hz1 h0
      go_enter Try.func136, Try.ntmps136
      go_wp2_with (first
        | (go_at_call 135; refine (hdn _).mono ?_; rintro e w1 ⟨rfl, hb⟩)
        | (go_at_call 55; refine (hsd _).mono ?_; rintro e w2 ⟨rfl, hb2⟩))
      go_ret
      exact ⟨rfl, hb.trans (hb2.mono hb.size)⟩
    · have hP : P = pw (abv s1 z1).1 (abv s1 z1).2 := UpOk.unique H.anti H.up (up_next s1 z1 hz1 (by omega) hn)
      have hs1 : (E (V s1 z1)).sign = 1 := Int.sign_eq_one_of_pos (by omega)
      rw [hs1] at hsd
      rw [hP]
      clear hP H hE hn hadd0 hD hDp hz hz1 h0 hs1
      go_enter Try.func136, Try.ntmps136
      go_wp2_with (first
        | (go_at_call 135; refine (hdn _).mono ?_; rintro e w1 ⟨rfl, hb⟩)
        | (go_at_call 169; refine (hab _).mono ?_; rintro e w3 ⟨rfl, rfl⟩)
        | (go_at_call 55; refine (hsd _).mono ?_; rintro e w2 ⟨rfl, hb2⟩))
      go_ret
      exact ⟨rfl, hb.trans (hb2.mono hb.size)⟩
/-- DOWN or UP. -/
def eiB (lower : Bool) (D P : Nat) : Nat := if lower then D else P
theorem round_eq {op : Int} {X Y D P : Nat} {E : Int → Int} (H : RefIn op X Y E D P) (lower s : Bool) (z : Nat) (hz : z ≤ INF) (w : World) :
    Calls Try.prog 89 #[.bool lower, .int .i64 op, .float .f64 X, .float .f64 Y, .float .f64 (W s z)] w
      fun e w' => e = .returned (.float .f64 (eiB lower D P)) ∧ Below w.heap.size w w' := by
  have hdn := down_eq H s z hz
  have hup := up_eq H s z hz
  clear H
  cases lower
  · go_enter Try.func89, Try.ntmps89
    go_wp2_with (go_at_call 136; refine (hup _).mono ?_; rintro e w1 ⟨rfl, hb⟩)
    go_ret
    exact ⟨rfl, hb⟩
  · go_enter Try.func89, Try.ntmps89
    go_wp2_with (go_at_call 135; refine (hdn _).mono ?_; rintro e w1 ⟨rfl, hb⟩)
    go_ret
    exact ⟨rfl, hb⟩
theorem either_any (lower : Bool) (D P : Nat) (w : World) :
    Calls Try.prog 88 #[.bool lower, .float .f64 D, .float .f64 P] w fun e w' => e = .returned (.float .f64 (eiB lower D P)) ∧ w' = w := by
  cases lower
  all_goals
    go_enter Try.func88, Try.ntmps88
    go_wp2
    go_ret
    exact ⟨rfl, rfl⟩
theorem inf_any (s : Bool) (z : Nat) (hz : z ≤ INF) (w : World) :
    Calls Try.prog 87 #[.float .f64 (W s z)] w fun e w' => e = .returned (.bool (decide (z = INF))) ∧ w' = w := by
  have h1 := order_high s z hz
  have h2 := order_low s z hz
  generalize decide (z = INF) = b at *
  clear hz
  cases s <;> cases b
  all_goals
    go_enter Try.func87, Try.ntmps87
    go_wp2
    go_ret
    exact ⟨rfl, rfl⟩
end Go.Proofs.Ytacnclofbnafiaa
