import Derived.Test.YtacnclofbnafiaaW10
namespace Go.Proofs.Ytacnclofbnafiaa
open Go.RowKit Fl

/-- What Near asks of one operation: its DOWN, its UP, Go's own answer. -/
structure NearOk (d u o : Nat) : Prop where
  dd : Ieee.double.order d d = some .eq
  uu : Ieee.double.order u u = some .eq
  du : (Ieee.double.order d u == some .gt) = false
  own : ∃ s r, r < 9223372036854775808 ∧ o = W s r ∧ (INF < r ∨ r = INF ∨ (r < INF ∧ (Ieee.double.order d o == some .gt) = false ∧ (Ieee.double.order u o == some .lt) = false
    ∧ ∃ n, (∀ w, Calls Try.prog 30 #[.float .f64 d, .float .f64 (W false INF)] w fun e w' => e = .returned (.float .f64 n) ∧ w' = w) ∧ (Ieee.double.order u n == some .gt) = false))

def four (a b c d : Nat) (k : Nat) : Nat := if k = 0 then a else if k = 1 then b else if k = 2 then c else d

theorem cells_four (w : World) (a b c d : Nat) (t : TypeId) (k : Nat) (hk : k < 4) :
    (w.alloc (.cells #[.float .f64 a, .float .f64 b, .float .f64 c, .float .f64 d] t)).cell? ⟨w.heap.size, k, none⟩ = some (.float .f64 (four a b c d k)) := by
  have : k = 0 ∨ k = 1 ∨ k = 2 ∨ k = 3 := by omega
  have e : ∀ o : Obj, (w.alloc o).heap[w.heap.size]? = some o := fun o => by
    show (w.heap.push o)[w.heap.size]? = some o
    simp
  unfold World.cell?
  rw [e]
  rcases this with rfl | rfl | rfl | rfl <;> rfl
theorem bcell {W w1 : World} (hb : Below W.heap.size W w1) : (∀ b o, b < W.heap.size → w1.cell? ⟨b, o, none⟩ = W.cell? ⟨b, o, none⟩) :=
  fun b o h => hb.cell (p := ⟨b, o, none⟩) h

set_option maxRecDepth 100000 in
set_option maxHeartbeats 4000000 in
theorem near_walk (x y x' y' d0 d1 d2 d3 u0 u1 u2 u3 na nm nq ns s0 p0 m0 q0 d0' d1' : Nat) (oa om oq os : World → Nat)
    (D0 : ∀ w, Calls Try.prog 15 #[.float .f64 x, .float .f64 y] w fun e w' => e = .returned (.float .f64 d0) ∧ Below w.heap.size w w')
    (D1 : ∀ w, Calls Try.prog 17 #[.float .f64 x, .float .f64 y] w fun e w' => e = .returned (.float .f64 d1) ∧ Below w.heap.size w w')
    (D2 : ∀ w, Calls Try.prog 19 #[.float .f64 x, .float .f64 y] w fun e w' => e = .returned (.float .f64 d2) ∧ Below w.heap.size w w')
    (D3 : ∀ w, Calls Try.prog 21 #[.float .f64 x] w fun e w' => e = .returned (.float .f64 d3) ∧ Below w.heap.size w w')
    (U0 : ∀ w, Calls Try.prog 16 #[.float .f64 x, .float .f64 y] w fun e w' => e = .returned (.float .f64 u0) ∧ Below w.heap.size w w')
    (U1 : ∀ w, Calls Try.prog 18 #[.float .f64 x, .float .f64 y] w fun e w' => e = .returned (.float .f64 u1) ∧ Below w.heap.size w w')
    (U2 : ∀ w, Calls Try.prog 20 #[.float .f64 x, .float .f64 y] w fun e w' => e = .returned (.float .f64 u2) ∧ Below w.heap.size w w')
    (U3 : ∀ w, Calls Try.prog 22 #[.float .f64 x] w fun e w' => e = .returned (.float .f64 u3) ∧ Below w.heap.size w w')
    (O0 : ∀ t' w, (binOp .add t' (.float .f64 x) (.float .f64 y)).run Try.prog w = .ok (.float .f64 (oa w)) (w.drewN na))
    (O1 : ∀ t' w, (binOp .mul t' (.float .f64 x) (.float .f64 y)).run Try.prog w = .ok (.float .f64 (om w)) (w.drewN nm))
    (O2 : ∀ t' w, (binOp .quo t' (.float .f64 x) (.float .f64 y)).run Try.prog w = .ok (.float .f64 (oq w)) (w.drewN nq))
    (O3 : ∀ w, Calls Try.prog 28 #[.float .f64 x] w fun e w' => e = .returned (.float .f64 (os w)) ∧ w' = w.drewN ns)
    (N0 : ∀ w, NearOk d0 u0 (oa w)) (N1 : ∀ w, NearOk d1 u1 (om w)) (N2 : ∀ w, NearOk d2 u2 (oq w)) (N3 : ∀ w, NearOk d3 u3 (os w))
    (hx : Op.unary .neg (.float .f64 x) = pure (.float .f64 x')) (hy : Op.unary .neg (.float .f64 y) = pure (.float .f64 y'))
    (E0 : ∀ w, Calls Try.prog 15 #[.float .f64 y, .float .f64 x] w fun e w' => e = .returned (.float .f64 s0) ∧ Below w.heap.size w w')
    (E1 : ∀ w, Calls Try.prog 17 #[.float .f64 y, .float .f64 x] w fun e w' => e = .returned (.float .f64 p0) ∧ Below w.heap.size w w')
    (E2 : ∀ w, Calls Try.prog 16 #[.float .f64 x', .float .f64 y'] w fun e w' => e = .returned (.float .f64 m0) ∧ Below w.heap.size w w')
    (E3 : ∀ w, Calls Try.prog 18 #[.float .f64 x', .float .f64 y] w fun e w' => e = .returned (.float .f64 q0) ∧ Below w.heap.size w w')
    (hd0 : Op.unary .neg (.float .f64 d0) = pure (.float .f64 d0')) (hd1 : Op.unary .neg (.float .f64 d1) = pure (.float .f64 d1'))
    (F0 : (Ieee.double.order s0 d0 == some .eq) = true) (F1 : (Ieee.double.order p0 d1 == some .eq) = true)
    (F2 : (Ieee.double.order m0 d0' == some .eq) = true) (F3 : (Ieee.double.order q0 d1' == some .eq) = true)
    (w : World) :
    Calls Try.prog 4 #[.float .f64 x, .float .f64 y] w fun e w' => e = .returned (.bool true) ∧ Below w.heap.size w w' := by
  go_enter Try.func4, Try.ntmps4
  go_wp2_with (first
    | (go_at_call 15; refine (D0 _).mono ?_; rintro e w1 ⟨rfl, hb1⟩)
    | (go_at_call 17; refine (D1 _).mono ?_; rintro e w2 ⟨rfl, hb2⟩)
    | (go_at_call 19; refine (D2 _).mono ?_; rintro e w3 ⟨rfl, hb3⟩)
    | (go_at_call 21; refine (D3 _).mono ?_; rintro e w4 ⟨rfl, hb4⟩)
    | (go_at_call 16; refine (U0 _).mono ?_; rintro e w5 ⟨rfl, hb5⟩)
    | (go_at_call 18; refine (U1 _).mono ?_; rintro e w6 ⟨rfl, hb6⟩)
    | (go_at_call 20; refine (U2 _).mono ?_; rintro e w7 ⟨rfl, hb7⟩)
    | (go_at_call 22; refine (U3 _).mono ?_; rintro e w8 ⟨rfl, hb8⟩)
    | (go_at_call 28; refine (O3 _).mono ?_; rintro e w9 ⟨rfl, rfl⟩))
  have N0 := N0 (w8.alloc (.cells #[.float .f64 u0, .float .f64 u1, .float .f64 u2, .float .f64 u3] 22))
  have N1 := N1 ((w8.alloc (.cells #[.float .f64 u0, .float .f64 u1, .float .f64 u2, .float .f64 u3] 22)).drewN na)
  have N2 := N2 ((w8.alloc (.cells #[.float .f64 u0, .float .f64 u1, .float .f64 u2, .float .f64 u3] 22)).drewN (na + nm))
  have N3 := N3 ((w8.alloc (.cells #[.float .f64 u0, .float .f64 u1, .float .f64 u2, .float .f64 u3] 22)).drewN (na + nm + nq))
  generalize oa _ = o0 at *
  generalize om _ = o1 at *
  generalize oq _ = o2 at *
  generalize os _ = o3 at *
  have HN : ∀ k, k < 4 → NearOk (four d0 d1 d2 d3 k) (four u0 u1 u2 u3 k) (four o0 o1 o2 o3 k) := by
    intro k hk
    have : k = 0 ∨ k = 1 ∨ k = 2 ∨ k = 3 := by omega
    rcases this with rfl | rfl | rfl | rfl
    · exact N0
    · exact N1
    · exact N2
    · exact N3
  clear N0 N1 N2 N3
  have sz4 : w4.heap.size < w8.heap.size := by
    have h5 := hb5.size; have h6 := hb6.size; have h7 := hb7.size; have h8 := hb8.size
    simp at h5; omega
  have szw : w.heap.size ≤ w4.heap.size := by
    have h1 := hb1.size; have h2 := hb2.size; have h3 := hb3.size; have h4 := hb4.size; omega
  have bw4 : Below w.heap.size w w4 := by
    have h1 := hb1.size; have h2 := hb2.size; have h3 := hb3.size
    exact ((hb1.trans (hb2.mono (by omega))).trans (hb3.mono (by omega))).trans (hb4.mono (by omega))
  have b48 : Below (w4.heap.size + 1) (w4.alloc (.cells #[.float .f64 d0, .float .f64 d1, .float .f64 d2, .float .f64 d3] 22)) w8 := by
    have h5 := hb5.size; have h6 := hb6.size; have h7 := hb7.size
    simp at h5
    exact (((hb5.mono (by simp)).trans (hb6.mono (by omega))).trans (hb7.mono (by omega))).trans (hb8.mono (by omega))
  have bw8 : Below w.heap.size w w8 := (bw4.alloc szw _).trans (b48.mono (by omega))
  go_loopw [8] (fun i wr => ∃ k : Nat, k ≤ 4 ∧ i = .int .i64 k ∧ Below w.heap.size w wr ∧ w8.heap.size + 1 < wr.heap.size
      ∧ (∀ j, j < 4 → wr.cell? ⟨w4.heap.size, j, none⟩ = some (.float .f64 (four d0 d1 d2 d3 j)))
      ∧ (∀ j, j < 4 → wr.cell? ⟨w8.heap.size, j, none⟩ = some (.float .f64 (four u0 u1 u2 u3 j)))
      ∧ (∀ j, j < 4 → wr.cell? ⟨w8.heap.size + 1, j, none⟩ = some (.float .f64 (four o0 o1 o2 o3 j)))) (fun i _ => 4 - (intOf i).toNat)
  case atStart =>
    refine ⟨0, by omega, rfl, ?_, by simp, fun j hj => ?_, fun j hj => ?_, fun j hj => ?_⟩
    · exact ((bl_drewN (bw8.alloc (by omega) _) _).alloc (by simp; omega) _)
    · have bs : Below w8.heap.size w8 (((w8.alloc (.cells #[.float .f64 u0, .float .f64 u1, .float .f64 u2, .float .f64 u3] 22)).drewN (na + nm + nq + ns)).alloc (.cells #[.float .f64 o0, .float .f64 o1, .float .f64 o2, .float .f64 o3] 22)) :=
        (bl_drewN ((Below.refl _ _).alloc (Nat.le_refl _) _) _).alloc (by simp) _
      rw [bs.cell (p := ⟨w4.heap.size, j, none⟩) sz4, b48.cell (p := ⟨w4.heap.size, j, none⟩) (Nat.lt_succ_self _)]
      exact cells_four _ _ _ _ _ _ j hj
    · have bs : Below (w8.heap.size + 1) (w8.alloc (.cells #[.float .f64 u0, .float .f64 u1, .float .f64 u2, .float .f64 u3] 22)) (((w8.alloc (.cells #[.float .f64 u0, .float .f64 u1, .float .f64 u2, .float .f64 u3] 22)).drewN (na + nm + nq + ns)).alloc (.cells #[.float .f64 o0, .float .f64 o1, .float .f64 o2, .float .f64 o3] 22)) :=
        (bl_drewN (Below.refl _ _) _).alloc (by simp) _
      rw [bs.cell (p := ⟨w8.heap.size, j, none⟩) (Nat.lt_succ_self _)]
      exact cells_four _ _ _ _ _ _ j hj
    · have := cells_four ((w8.alloc (.cells #[.float .f64 u0, .float .f64 u1, .float .f64 u2, .float .f64 u3] 22)).drewN (na + nm + nq + ns)) o0 o1 o2 o3 22 j hj
      have e : ((w8.alloc (.cells #[.float .f64 u0, .float .f64 u1, .float .f64 u2, .float .f64 u3] 22)).drewN (na + nm + nq + ns)).heap.size = w8.heap.size + 1 := by simp
      rw [e] at this
      exact this
  case round =>
    obtain ⟨k, hk, rfl, hB, hsz, hcd, hcu, hco⟩ := hrel
    clear bw8 b48 bw4 hb1 hb2 hb3 hb4 hb5 hb6 hb7 hb8
    by_cases hlt : k < 4
    · obtain ⟨dd, uu, du, s, r, hr, ho, hown⟩ := HN k hlt
      have gd := hcd k hlt
      have gu := hcu k hlt
      have go := hco k hlt
      rw [ho] at go
      have Hcd : Hid (∀ j, j < 4 → wr.cell? ⟨w4.heap.size, j, none⟩ = some (.float .f64 (four d0 d1 d2 d3 j))) := hcd
      have Hcu : Hid (∀ j, j < 4 → wr.cell? ⟨w8.heap.size, j, none⟩ = some (.float .f64 (four u0 u1 u2 u3 j))) := hcu
      have Hco : Hid (∀ j, j < 4 → wr.cell? ⟨w8.heap.size + 1, j, none⟩ = some (.float .f64 (four o0 o1 o2 o3 j))) := hco
      clear hcd hcu hco
      generalize four d0 d1 d2 d3 k = d at *
      generalize four u0 u1 u2 u3 k = u at *
      clear D0 D1 D2 D3 U0 U1 U2 U3 O0 O1 O2 O3 hx hy E0 E1 E2 E3 hd0 hd1 F0 F1 F2 F3 HN
      have b1 : (Ieee.double.order d d != some .eq) = false := by rw [dd]; rfl
      have b2 : (Ieee.double.order u u != some .eq) = false := by rw [uu]; rfl
      clear dd uu
      generalize hI : W false INF = I at hown
      have ip := inf_pos
      rw [hI] at ip
      clear hI
      rcases hown with h | h | ⟨h, h1, h2, n, h3, h4⟩
      · have oo : (Ieee.double.order (W s r) (W s r) != some .eq) = true := by rw [order_nan_l s r (W s r) h hr]; rfl
        clear h
        go_wp2_with fail
        go_quiet (fail)
        go_wp2_with fail
        go_quiet (fail)
        go_wp2_with fail
        go_roundw
        case rel => exact ⟨k + 1, by omega, by go_num, bl_drewN hB _, hsz, Hcd.out, Hcu.out, Hco.out⟩
        case measure => simp [intOf]; omega
      · have oo : (Ieee.double.order (W s r) (W s r) != some .eq) = false := by rw [order_self s r (by omega)]; rfl
        have ci : ∀ w, Calls Try.prog 29 #[.float .f64 (W s r), .int .i64 0] w fun e w' => e = .returned (.bool true) ∧ w' = w := by
          intro w; rw [← decide_eq_true h]; exact isInf0 s r hr w
        clear h
        go_wp2_with fail
        go_quiet (fail)
        go_wp2_with fail
        go_quiet ((first
          | (go_at_call 29; exact (ci _).mono fun _ _ ⟨he, hw⟩ => ⟨he, _, hw⟩)))
        go_wp2_with fail
        go_roundw
        case rel => exact ⟨k + 1, by omega, by go_num, bl_drewN hB _, hsz, Hcd.out, Hcu.out, Hco.out⟩
        case measure => simp [intOf]; omega
      · have oo : (Ieee.double.order (W s r) (W s r) != some .eq) = false := by rw [order_self s r (by omega)]; rfl
        have ci : ∀ w, Calls Try.prog 29 #[.float .f64 (W s r), .int .i64 0] w fun e w' => e = .returned (.bool false) ∧ w' = w := by
          intro w; rw [← decide_eq_false (show ¬ r = INF by omega)]; exact isInf0 s r hr w
        rw [ho] at h1 h2
        clear h
        go_wp2_with fail
        go_quiet (fail)
        go_wp2_with fail
        go_quiet ((first
          | (go_at_call 29; exact (ci _).mono fun _ _ ⟨he, hw⟩ => ⟨he, _, hw⟩)))
        go_wp2_with fail
        go_quiet ((first
          | (go_at_call 31; exact (ip _).mono fun _ _ ⟨he, hw⟩ => ⟨he, _, hw⟩)
          | (go_at_call 30; exact (h3 _).mono fun _ _ ⟨he, hw⟩ => ⟨he, _, hw⟩)))
        go_wp2_with fail
        go_quiet (fail)
        go_wp2_with fail
        go_roundw
        case rel => exact ⟨k + 1, by omega, by go_num, bl_drewN hB _, hsz, Hcd.out, Hcu.out, Hco.out⟩
        case measure => simp [intOf]; omega
    · have hk4 : k = 4 := by omega
      subst hk4
      have g0 := hcd 0 (by omega)
      have g1 := hcd 1 (by omega)
      rw [show four d0 d1 d2 d3 0 = d0 from rfl] at g0
      rw [show four d0 d1 d2 d3 1 = d1 from rfl] at g1
      have hsz4 : w4.heap.size < wr.heap.size := by omega
      clear hcd hcu hco HN D0 D1 D2 D3 U0 U1 U2 U3 O0 O1 O2 O3
      go_wp2_with fail
      go_at_call 15
      refine (E0 _).mono ?_
      rintro e v1 ⟨rfl, hv1⟩
      go_wp2_with fail
      go_at_call 17
      refine (E1 _).mono ?_
      rintro e v2 ⟨rfl, hv2⟩
      go_wp2_with fail
      go_at_call 16
      refine (E2 _).mono ?_
      rintro e v3 ⟨rfl, hv3⟩
      go_wp2_with fail
      go_at_call 18
      refine (E3 _).mono ?_
      rintro e v4 ⟨rfl, hv4⟩
      have s1 := hv1.size
      have s2 := hv2.size
      have s3 := hv3.size
      have bv : Below wr.heap.size wr v4 := ((hv1.trans (hv2.mono s1)).trans (hv3.mono (by omega))).trans (hv4.mono (by omega))
      have k0 : v4.cell? ⟨w4.heap.size, 0, none⟩ = some (.float .f64 d0) := by rw [bv.cell (p := ⟨w4.heap.size, 0, none⟩) hsz4]; exact g0
      have k1 : v4.cell? ⟨w4.heap.size, 1, none⟩ = some (.float .f64 d1) := by rw [bv.cell (p := ⟨w4.heap.size, 1, none⟩) hsz4]; exact g1
      have hfin : Below w.heap.size w v4 := hB.trans (bv.mono (by have := hB.size; omega))
      clear bv hv1 hv2 hv3 hv4 s1 s2 s3 g0 g1
      go_wp2_with fail
      go_ret
      exact ⟨rfl, hfin⟩
end Go.Proofs.Ytacnclofbnafiaa
