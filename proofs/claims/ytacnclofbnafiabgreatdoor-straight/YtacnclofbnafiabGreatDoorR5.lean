import Derived.Test.YtacnclofbnafiabGreatDoorRA
namespace Go.Proofs.YtacnclofbnafiabGreatDoor
open Go.RowKit Fl

/-- What loop 1 knows of its r. -/
def L1 (E : Int → Int) (s : Bool) (z : Nat) : Prop := z ≤ INF ∧ (z = INF → s = true ∧ ∃ mx, mx + 1 = INF ∧ E (V true mx) < 0)
def L2 (E : Int → Int) (s : Bool) (z : Nat) : Prop := z < INF ∧ 0 ≤ E (V s z)
theorem L1.below {E : Int → Int} {s : Bool} {z : Nat} (hz : z < INF) (h : E (V s z) < 0) : L1 E (blw s z).1 (blw s z).2 := by
  obtain ⟨h1, h2⟩ := blw_le s z hz
  refine ⟨h1, fun e => ?_⟩
  obtain ⟨g1, g2, g3⟩ := h2 e
  exact ⟨g1, z, g3, by rw [← g2]; exact h⟩
def ixN (v : Value) : Nat := match v with | .float _ x => (if x < 9223372036854775808 then 9218868437227405312 + x else 9218868437227405312 - (x - 9223372036854775808)) | _ => 0
theorem ixN_W (s : Bool) (z : Nat) (hz : z ≤ INF) : ixN (.float .f64 (W s z)) = (INF + ixI s z).toNat := by
  rw [INF_eq] at *
  unfold ixN W ixI
  cases s
  · simp only [Bool.false_eq_true, if_false, Nat.zero_add]
    rw [if_pos (by omega)]; omega
  · simp only [if_true]
    rw [if_neg (by omega)]; omega
theorem sign_neg_iff (x : Int) : x.sign < 0 ↔ x < 0 := by
  rcases Int.lt_trichotomy x 0 with h | h | h
  · rw [Int.sign_eq_neg_one_of_neg h]; omega
  · subst h; simp
  · rw [Int.sign_eq_one_of_pos h]; omega
set_option maxRecDepth 20000 in
set_option maxHeartbeats 1000000 in
theorem down_from (op : Int) (X Y : Nat) (E : Int → Int) (s0 : Bool) (z0 : Nat) (hz0 : z0 < INF)
    (hS : ∀ s z, z < INF → ∀ w, Calls Tryz.prog 165 #[.int .i64 op, .float .f64 X, .float .f64 Y, .float .f64 (W s z)] w
      fun e w' => e = .returned (.int .i64 (E (V s z)).sign) ∧ Below w.heap.size w w') (R : Nat)
    (hR : R = W s0 z0 ∨ (R = W false INF ∧ W s0 z0 = 9218868437227405311) ∨ (R = W true INF ∧ W s0 z0 = 18442240474082181119)) (w : World) :
    Calls Tryz.prog 157 #[.int .i64 op, .float .f64 X, .float .f64 Y, .float .f64 R] w
      fun e w' => (∃ x, e = .returned (.float .f64 x) ∧ DownOk E x) ∧ Below w.heap.size w w' := by
  have tests : ((Ieee.double.order R 9218868437227405311 == some .gt) = false ∧ (Ieee.double.order R 18442240474082181119 == some .lt) = false ∧ R = W s0 z0)
      ∨ ((Ieee.double.order R 9218868437227405311 == some .gt) = true ∧ (Ieee.double.order 9218868437227405311 18442240474082181119 == some .lt) = false ∧ W s0 z0 = 9218868437227405311)
      ∨ ((Ieee.double.order R 9218868437227405311 == some .gt) = false ∧ (Ieee.double.order R 18442240474082181119 == some .lt) = true ∧ W s0 z0 = 18442240474082181119) := by
    have hne : decide (z0 = INF) = false := decide_eq_false (by omega)
    rcases hR with h | ⟨h, h'⟩ | ⟨h, h'⟩
    · left
      rw [h]
      exact ⟨by rw [order_high s0 z0 (Nat.le_of_lt hz0), hne]; simp, by rw [order_low s0 z0 (Nat.le_of_lt hz0), hne]; simp, rfl⟩
    · right; left
      rw [h]
      exact ⟨by rw [order_high false INF (Nat.le_refl _)]; simp, by rw [← h', order_low s0 z0 (Nat.le_of_lt hz0), hne]; simp, h'⟩
    · right; right
      rw [h]
      exact ⟨by rw [order_high true INF (Nat.le_refl _)]; simp, by rw [order_low true INF (Nat.le_refl _)]; simp, h'⟩
  have HS : Hid _ := hS
  clear hS hR
  rcases tests with ⟨t1, t2, t3⟩ | ⟨t1, t2, t3⟩ | ⟨t1, t2, t3⟩
  all_goals
    have T3 : Hid _ := t3
    clear t3
    go_enter Tryz.func157, Tryz.ntmps157
    go_wp2_with fail
    go_loopw [3] (fun v wr => ∃ s z, v = .float .f64 (W s z) ∧ Hid (L1 E s z ∧ Below w.heap.size w wr)) (fun v _ => ixN v)
    case atStart => exact ⟨s0, z0, by first | rw [T3.out] | rw [← T3.out], ⟨by omega, fun h => by omega⟩, Below.refl _ _⟩
    case round =>
      obtain ⟨s, z, rfl, hI⟩ := hrel
      obtain ⟨⟨h1, h2⟩, hB⟩ := hI.out
      have hlow := order_low s z h1
      by_cases hz : z = INF
      · obtain ⟨g1, g2⟩ := h2 hz
        have G2 : Hid _ := g2
        have HZ : Hid (z = INF) := hz
        have G1 : Hid (s = true) := g1
        rw [decide_eq_true hz, g1] at hlow
        rw [g1]
        clear h1 h2 hz g1 g2 hI
        go_wp2_with fail
        go_ret
        exact ⟨⟨_, rfl, .inl ⟨by rw [HZ.out], G2.out⟩⟩, hB⟩
      · have hz' : z < INF := by omega
        rw [decide_eq_false hz, Bool.and_false] at hlow
        have hsd := HS.out s z hz'
        have hbl := below_any s z hz'
        have sg := sign_neg_iff (E (V s z))
        obtain ⟨c, hc⟩ : ∃ c, c = (E (V s z)).sign := ⟨_, rfl⟩
        rw [← hc] at hsd sg
        clear hc h1 h2 hz hI
        by_cases hcn : c < 0
        · have hneg := sg.1 hcn
          have HNEG : Hid _ := hneg
          have HZ : Hid _ := hz'
          clear sg hneg hz'
          go_wp2_with (first
            | (go_at_call 165; refine (hsd _).mono ?_; rintro e w1 ⟨rfl, hb1⟩)
            | (go_at_call 166; refine (hbl _).mono ?_; rintro e w2 ⟨rfl, rfl⟩))
          go_roundw
          case rel => exact ⟨_, _, rfl, L1.below HZ.out HNEG.out, hB.trans (hb1.mono hB.size)⟩
          case measure =>
            rw [ixN_W _ _ (blw_le s z HZ.out).1, ixN_W s z (Nat.le_of_lt HZ.out), ix_blw]
            have := (show -(INF : Int) < ixI s z by have := HZ.out; unfold ixI; split <;> omega)
            omega
        · have hpos : 0 ≤ E (V s z) := by
            rcases Int.lt_or_le (E (V s z)) 0 with g | g
            · exact absurd (sg.2 g) hcn
            · exact g
          have HL2 : Hid (L2 E s z) := ⟨hz', hpos⟩
          clear sg hpos hz' hbl
          go_wp2_with (go_at_call 165; refine (hsd _).mono ?_; rintro e w1 ⟨rfl, hb1⟩)
          have hB1 : Below w.heap.size w w1 := hB.trans (hb1.mono hB.size)
          clear hb1 hB hlow hsd hcn
          go_loopw [3] (fun v wr => ∃ s z, v = .float .f64 (W s z) ∧ Hid (L2 E s z ∧ Below w.heap.size w wr)) (fun v _ => 18437736874454810624 - ixN v)
          case atStart => exact ⟨s, z, rfl, HL2.out, hB1⟩
          case round =>
            clear HL2 hB1
            obtain ⟨s', z', rfl, hI'⟩ := hrel
            obtain ⟨⟨k1, k2⟩, hB'⟩ := hI'.out
            have hab := above_any s' z' k1
            obtain ⟨a1, a2⟩ := abv_le s' z' k1
            have hhi := order_high (abv s' z').1 (abv s' z').2 a1
            by_cases hy : (abv s' z').2 = INF
            · obtain ⟨q1, q2, q3⟩ := a2 hy
              rw [decide_eq_true hy, q1] at hhi
              rw [q1] at hab
              have HQ : Hid (s' = false ∧ z' + 1 = INF) := ⟨q2, q3⟩
              have HK : Hid (L2 E s' z') := ⟨k1, k2⟩
              clear a1 a2 hy q1 q2 q3 k1 k2 hI'
              generalize (abv s' z').2 = y at *
              go_wp2_with (go_at_call 167; refine (hab _).mono ?_; rintro e w2 ⟨rfl, rfl⟩)
              go_ret
              refine ⟨⟨_, rfl, .inr ⟨s', z', ?_, HK.out.1, HK.out.2, .inl HQ.out⟩⟩, hB'⟩
              exact (pw_W _ _ (by rintro rfl; have := HQ.out.2; have h1 : 1 < INF := by rw [INF_eq]; omega
                                  omega)).symm
            · have hy' : (abv s' z').2 < INF := by omega
              rw [decide_eq_false hy, Bool.and_false] at hhi
              have hsd := HS.out (abv s' z').1 (abv s' z').2 hy'
              have ha0 := add_zero_W s' z' k1
              have hadd := fun t' w => run_float_arith (P := Tryz.prog) w .add t' .f64 _ _ _ ha0
              have sg := sign_neg_iff (E (V (abv s' z').1 (abv s' z').2))
              have HK : Hid (L2 E s' z') := ⟨k1, k2⟩
              have HY : Hid ((abv s' z').2 < INF) := hy'
              have hix := ix_abv s' z'
              obtain ⟨c', hc'⟩ : ∃ c', c' = (E (V (abv s' z').1 (abv s' z').2)).sign := ⟨_, rfl⟩
              rw [← hc'] at hsd sg
              obtain ⟨v', hv'⟩ : ∃ v', v' = E (V (abv s' z').1 (abv s' z').2) := ⟨_, rfl⟩
              rw [← hv'] at sg
              have HV : Hid (v' = E (V (abv s' z').1 (abv s' z').2)) := hv'
              have HIX : Hid (ixI (abv s' z').1 (abv s' z').2 = ixI s' z' + 1) := hix
              clear hc' hv' hix a1 a2 hy hy' k1 k2 hI' ha0
              generalize hu : (abv s' z').1 = u at *
              generalize hy2 : (abv s' z').2 = y at *
              have HU : Hid ((abv s' z').1 = u) := hu
              have HY2 : Hid ((abv s' z').2 = y) := hy2
              clear hu hy2
              by_cases hcn' : c' < 0
              · have HN : Hid _ := sg.1 hcn'
                clear sg
                go_wp2_with (first
                  | (go_at_call 165; refine (hsd _).mono ?_; rintro e w3 ⟨rfl, hb3⟩)
                  | (go_at_call 167; refine (hab _).mono ?_; rintro e w2 ⟨rfl, rfl⟩))
                go_ret
                refine ⟨⟨_, rfl, .inr ⟨s', z', rfl, HK.out.1, HK.out.2, .inr ?_⟩⟩, hB'.trans (hb3.mono hB'.size)⟩
                rw [HU.out, HY2.out, ← HV.out]; exact HN.out
              · have hp : 0 ≤ v' := by
                  rcases Int.lt_or_le v' 0 with g | g
                  · exact absurd (sg.2 g) hcn'
                  · exact g
                have HPP : Hid (0 ≤ v') := hp
                clear sg hp
                go_wp2_with (first
                  | (go_at_call 165; refine (hsd _).mono ?_; rintro e w3 ⟨rfl, hb3⟩)
                  | (go_at_call 167; refine (hab _).mono ?_; rintro e w2 ⟨rfl, rfl⟩))
                go_roundw
                case rel => exact ⟨u, y, rfl, ⟨HY.out, by rw [← HV.out]; exact HPP.out⟩, hB'.trans (hb3.mono hB'.size)⟩
                case measure =>
                  have e1 := HY.out
                  have e2 := HK.out.1
                  rw [ixN_W u y (Nat.le_of_lt e1), ixN_W s' z' (Nat.le_of_lt e2), HIX.out]
                  have e3 : ixI s' z' < INF := by unfold ixI; split <;> omega
                  have e4 : -(INF : Int) < ixI s' z' := by unfold ixI; split <;> omega
                  rw [INF_eq] at *
                  omega
end Go.Proofs.YtacnclofbnafiabGreatDoor
