import Derived.Test.YtiohmafmkdbljaaK9
import Derived.Deep.DeepCutAuto
namespace Go.Proofs.Ytiohmafmkdbljaa
open Go.RowKit Fl

def mn (f : Nat → Int) : Nat → Int
  | 0 => f 0
  | 1 => f 0
  | k + 2 => min (mn f (k + 1)) (f (k + 1))
def mx (f : Nat → Int) : Nat → Int
  | 0 => f 0
  | 1 => f 0
  | k + 2 => max (mx f (k + 1)) (f (k + 1))
theorem mn_pl {f : Nat → Int} (h : ∀ j, Pl (f j)) : ∀ k, Pl (mn f k)
  | 0 => h 0
  | 1 => h 0
  | k + 2 => by
    have h1 := mn_pl h (k + 1)
    have h2 := h (k + 1)
    show Pl (min (mn f (k + 1)) (f (k + 1)))
    generalize mn f (k + 1) = q at *
    unfold Pl at *; omega
theorem mx_pl {f : Nat → Int} (h : ∀ j, Pl (f j)) : ∀ k, Pl (mx f k)
  | 0 => h 0
  | 1 => h 0
  | k + 2 => by
    have h1 := mx_pl h (k + 1)
    have h2 := h (k + 1)
    show Pl (max (mx f (k + 1)) (f (k + 1)))
    generalize mx f (k + 1) = q at *
    unfold Pl at *; omega
theorem mn_next (f : Nat → Int) (k : Nat) (h : 1 ≤ k) : mn f (k + 1) = min (mn f k) (f k) := by
  obtain ⟨j, rfl⟩ : ∃ j, k = j + 1 := ⟨k - 1, by omega⟩
  rfl
theorem mx_next (f : Nat → Int) (k : Nat) (h : 1 ≤ k) : mx f (k + 1) = max (mx f k) (f k) := by
  obtain ⟨j, rfl⟩ : ∃ j, k = j + 1 := ⟨k - 1, by omega⟩
  rfl
theorem least_w (b : Nat) (f : Nat → Int) (hf : ∀ j, Pl (f j)) (w : World) (hc : ∀ j, j < 4 → w.cell? ⟨b, j, none⟩ = some (.float .f64 (B (f j)))) :
    Calls Try.prog 73 #[.slice (some ⟨b, 0, none⟩) 4 4] w fun e w' => e = .returned (.float .f64 (B (mn f 4))) ∧ Below w.heap.size w w' := by
  have e0 := hc 0 (by omega)
  have HC : Hid (∀ j, j < 4 → w.cell? ⟨b, j, none⟩ = some (.float .f64 (B (f j)))) := hc
  clear hc
  go_enter Try.func73, Try.ntmps73
  go_wp2_with fail
  go_loop [3, 4] (fun v i => ∃ k : Nat, 1 ≤ k ∧ k ≤ 4 ∧ i = .int .i64 k ∧ v = .float .f64 (B (mn f k))) (fun _ i => 4 - (intOf i).toNat)
  case atStart => exact ⟨1, by omega, by omega, rfl, rfl⟩
  case round =>
    obtain ⟨k, hk1, hk, rfl, rfl⟩ := hrel
    clear e0
    by_cases hlt : k < 4
    · have e1 := HC.out k hlt
      have hm := mn_next f k hk1
      have ko := (Key.at (hf k)).order (Key.at (mn_pl hf k))
      rcases Int.lt_or_le (f k) (mn f k) with g | g
      · rw [Int.compare_eq_lt.2 g] at ko
        have hm' : mn f (k + 1) = f k := by rw [hm]; omega
        clear hm
        go_wp2_with fail
        go_round
        case rel => exact ⟨k + 1, by omega, by omega, by go_num, by rw [hm']⟩
        case measure => simp [intOf]; omega
      · have ko' : (Ieee.double.order (B (f k)) (B (mn f k)) == some .lt) = false := by
          rw [ko]
          have : compare (f k) (mn f k) ≠ .lt := by rw [Ne, Int.compare_eq_lt]; omega
          simp [this]
        have hm' : mn f (k + 1) = mn f k := by rw [hm]; omega
        clear hm ko
        go_wp2_with fail
        go_round
        case rel => exact ⟨k + 1, by omega, by omega, by go_num, by rw [hm']⟩
        case measure => simp [intOf]; omega
    · have : k = 4 := by omega
      subst this
      go_wp2_with fail
      go_ret
      exact ⟨rfl, Below.refl _ _⟩
theorem greatest_w (b : Nat) (f : Nat → Int) (hf : ∀ j, Pl (f j)) (w : World) (hc : ∀ j, j < 4 → w.cell? ⟨b, j, none⟩ = some (.float .f64 (B (f j)))) :
    Calls Try.prog 74 #[.slice (some ⟨b, 0, none⟩) 4 4] w fun e w' => e = .returned (.float .f64 (B (mx f 4))) ∧ Below w.heap.size w w' := by
  have e0 := hc 0 (by omega)
  have HC : Hid (∀ j, j < 4 → w.cell? ⟨b, j, none⟩ = some (.float .f64 (B (f j)))) := hc
  clear hc
  go_enter Try.func74, Try.ntmps74
  go_wp2_with fail
  go_loop [3, 4] (fun v i => ∃ k : Nat, 1 ≤ k ∧ k ≤ 4 ∧ i = .int .i64 k ∧ v = .float .f64 (B (mx f k))) (fun _ i => 4 - (intOf i).toNat)
  case atStart => exact ⟨1, by omega, by omega, rfl, rfl⟩
  case round =>
    obtain ⟨k, hk1, hk, rfl, rfl⟩ := hrel
    clear e0
    by_cases hlt : k < 4
    · have e1 := HC.out k hlt
      have hm := mx_next f k hk1
      have ko := (Key.at (hf k)).order (Key.at (mx_pl hf k))
      rcases Int.lt_or_le (mx f k) (f k) with g | g
      · rw [Int.compare_eq_gt.2 g] at ko
        have hm' : mx f (k + 1) = f k := by rw [hm]; omega
        clear hm
        go_wp2_with fail
        go_round
        case rel => exact ⟨k + 1, by omega, by omega, by go_num, by rw [hm']⟩
        case measure => simp [intOf]; omega
      · have ko' : (Ieee.double.order (B (f k)) (B (mx f k)) == some .gt) = false := by
          rw [ko]
          have : compare (f k) (mx f k) ≠ .gt := by rw [Ne, Int.compare_eq_gt]; omega
          simp [this]
        have hm' : mx f (k + 1) = mx f k := by rw [hm]; omega
        clear hm ko
        go_wp2_with fail
        go_round
        case rel => exact ⟨k + 1, by omega, by omega, by go_num, by rw [hm']⟩
        case measure => simp [intOf]; omega
    · have : k = 4 := by omega
      subst this
      go_wp2_with fail
      go_ret
      exact ⟨rfl, Below.refl _ _⟩
end Go.Proofs.Ytiohmafmkdbljaa
