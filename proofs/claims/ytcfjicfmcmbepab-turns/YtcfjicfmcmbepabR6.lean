import Derived.Test.YtcfjicfmcmbepabR5
import Derived.Test.YtcfjicfmcmbepabDA
import Derived.Test.YtcfjicfmcmbepabW10
namespace Go.Proofs.Ytcfjicfmcmbepab
open Go.RowKit Fl

/-- What the document's rounding of finite numbers wants to know. -/
structure RefIn (op : Int) (X Y : Nat) (E : Int → Int) (D P : Nat) : Prop where
  anti : AntiI E
  side : ∀ s z, z < INF → ∀ w, Calls Try.prog 34 #[.int .i64 op, .float .f64 X, .float .f64 Y, .float .f64 (W s z)] w
      fun e w' => e = .returned (.int .i64 (E (V s z)).sign) ∧ Below w.heap.size w w'
  down : DownOk E D
  up : UpOk E P
theorem DownOk.canon {E : Int → Int} {D : Nat} (h : DownOk E D) : (D = W true INF ∧ ∃ mx, mx + 1 = INF ∧ E (V true mx) < 0) ∨
    ∃ s z, D = W s z ∧ D = pw s z ∧ z < INF ∧ 0 ≤ E (V s z) ∧ ((s = false ∧ z + 1 = INF) ∨ E (V (abv s z).1 (abv s z).2) < 0) := by
  rcases h with h | ⟨s, z, h1, h2, h3, h4⟩
  · exact .inl h
  · right
    rcases Nat.eq_zero_or_pos z with e | e
    · subst e
      have e1 : pw s 0 = 0 := by unfold pw; rw [if_pos rfl]
      have e2 : pw false 0 = 0 := by unfold pw; rw [if_pos rfl]
      have e3 : abv s 0 = abv false 0 := by unfold abv; simp
      refine ⟨false, 0, by rw [h1, e1, W_zero], by rw [h1, e1, e2], h2, by rw [V_zero] at h3 ⊢; exact h3, ?_⟩
      rw [e3] at h4
      rcases h4 with ⟨_, h⟩ | h
      · exfalso; rw [INF_eq] at h; omega
      · exact .inr h
    · exact ⟨s, z, by rw [h1, pw_W _ _ (by omega)], h1, h2, h3, h4⟩
/-- DOWN or UP. -/
def eiB (lower : Bool) (D P : Nat) : Nat := if lower then D else P
theorem inf_any (s : Bool) (z : Nat) (hz : z ≤ INF) (w : World) :
    Calls Try.prog 24 #[.float .f64 (W s z)] w fun e w' => e = .returned (.bool (decide (z = INF))) ∧ w' = w := by
  have h1 := order_high s z hz
  have h2 := order_low s z hz
  generalize decide (z = INF) = b at *
  clear hz
  cases s <;> cases b
  all_goals
    go_enter Try.func24, Try.ntmps24
    go_wp2
    go_ret
    exact ⟨rfl, rfl⟩
end Go.Proofs.Ytcfjicfmcmbepab
