import Derived.Test.YtacnclofbnafiabVA
import Derived.Deep.RegionWith
namespace Go.Proofs.Ytacnclofbnafiab
open Go.RowKit Fl

theorem cell_one {w : World} {B : Nat} {u : Value} (h : w.cell? ⟨B, 0, none⟩ = some u) : ∀ j v, [u][j]? = some v → w.cell? ((⟨B, 0, none⟩ : Addr).add j) = some v := by
  intro j v hj
  match j, hj with
  | 0, hj => simp at hj; subst hj; simpa [Addr.add] using h
theorem one_float (x : Nat) : ∀ u ∈ [Value.float .f64 x], u.oneCell' = true := by
  intro u hu; simp at hu; subst hu; rfl
theorem XS.low {w0 : World} {be bd c : Nat} {d : Int} {wr : World} (h : XS w0 be bd c d wr) : Below bd w0 wr := by
  obtain ⟨F, _, _, _, hB⟩ := h
  exact hB
theorem XS.drewN {w0 : World} {be bd c : Nat} {d : Int} {wr : World} (h : XS w0 be bd c d wr) (n : Nat) : XS w0 be bd c d (wr.drewN n) := by
  obtain ⟨F, hX, hf, hd, hB⟩ := h
  exact ⟨F, ⟨hX.head, hX.cell, hX.soft, hX.lt1, hX.lt2, hX.ne⟩, hf, hd, bl_drewN hB n⟩
theorem sq_nn (x : Int) : 0 ≤ x * x := by
  rcases Int.le_total 0 x with h | h
  · exact Int.mul_nonneg h h
  · have := Int.mul_nonneg (show 0 ≤ -x by omega) (show 0 ≤ -x by omega)
    rwa [Int.neg_mul_neg] at this
theorem abs_mul2 {a b A B : Int} (h1 : a ≤ A) (h2 : -A ≤ a) (h3 : b ≤ B) (h4 : -B ≤ b) : a * b ≤ A * B := by
  have h : (a * b).natAbs ≤ (A * B).natAbs := by
    rw [Int.natAbs_mul, Int.natAbs_mul]
    exact Nat.mul_le_mul (by omega) (by omega)
  have p := Int.mul_nonneg (show 0 ≤ A by omega) (show 0 ≤ B by omega)
  omega
theorem sum_abs {G : Nat → Int} (h : ∀ j, Fin (G j)) : ∀ k : Nat, sumV G k ≤ k * (M INF : Int) ∧ -(k * (M INF : Int)) ≤ sumV G k
  | 0 => by unfold sumV; omega
  | k + 1 => by
    have ih := sum_abs h k
    have f := h k
    have p : Pl (INF : Int) := pl_inf
    have a := Vk_le.2 (Int.le_of_lt f.2)
    have b := Vk_le.2 (Int.le_of_lt f.1)
    rw [Vk_neg] at b
    have e : Vk (INF : Int) = (M INF : Int) := by rw [Vk_of_nn (by omega)]; rfl
    rw [e] at a b
    have c : ((k + 1 : Nat) : Int) * (M INF : Int) = k * (M INF : Int) + (M INF : Int) := by rw [Int.natCast_add, Int.add_mul]; omega
    rw [c]
    unfold sumV
    omega
theorem sum_sq {G : Nat → Int} (h : ∀ j, Fin (G j)) {k : Nat} (hk : k ≤ 5) : sumV G k * sumV G k ≤ 25 * ((M INF * M INF : Nat) : Int) := by
  obtain ⟨a, b⟩ := sum_abs h k
  have p : (0 : Int) ≤ (M INF : Int) := Int.natCast_nonneg _
  have c : (k : Int) * (M INF : Int) ≤ 5 * (M INF : Int) := Int.mul_le_mul_of_nonneg_right (by omega) p
  have m := abs_mul2 (A := 5 * (M INF : Int)) (B := 5 * (M INF : Int)) (by omega) (by omega) (by omega) (by omega) (a := sumV G k) (b := sumV G k)
  rw [Int.natCast_mul]
  have e : 5 * (M INF : Int) * (5 * (M INF : Int)) = 25 * ((M INF : Int) * (M INF : Int)) := by
    generalize (M INF : Int) = Y
    grind
  omega
set_option maxRecDepth 100000 in
set_option maxHeartbeats 16000000 in
theorem sum_w (re im : Value) (n m : Nat) (n1 : 0 < n) (n4 : n ≤ 4) (m1 : 0 < m) (m4 : m ≤ 4) (g h : Nat → Nat) (G H : Nat → Int) (kg : ∀ j, Key (g j) (G j)) (fg : ∀ j, Fin (G j)) (kh : ∀ j, Key (h j) (H j)) (fh : ∀ j, Fin (H j))
    (a b r an bn rn : Nat) (A C R : Int) (kan : Key an (-A)) (kbn : Key bn (-C)) (kr : Key r R) (krn : Key rn (-R)) (fA : Fin A) (fC : Fin C) (fR : Fin R)
    (e1 : Op.unary .neg (.float .f64 a) = pure (.float .f64 an)) (e2 : Op.unary .neg (.float .f64 b) = pure (.float .f64 bn)) (e3 : Op.unary .neg (.float .f64 r) = pure (.float .f64 rn)) (w : World) (hre : Arr w re n g) (him : Arr w im m h) :
    Calls Try.prog 33 #[re, im, .agg #[.complex .f64 a b, .float .f64 r]] w
      fun e w' => e = .returned (.bool (decide ((sumV G n - Vk A) * (sumV G n - Vk A) + (sumV H m - Vk C) * (sumV H m - Vk C) - Vk R * Vk R ≤ 0))) ∧ Below w.heap.size w w' := by
  obtain ⟨b1, c1, rfl, l1, q1⟩ := hre
  obtain ⟨b2, c2, rfl, l2, q2⟩ := him
  obtain ⟨i0, hi, hz0, hz1, hz2⟩ := info_parts infoF
  have HP : Hid ((∀ j, Key (g j) (G j)) ∧ (∀ j, Fin (G j)) ∧ (∀ j, Key (h j) (H j)) ∧ (∀ j, Fin (H j)) ∧ Key an (-A) ∧ Key bn (-C) ∧ Key r R ∧ Key rn (-R) ∧ Fin A ∧ Fin C ∧ Fin R) := ⟨kg, fg, kh, fh, kan, kbn, kr, krn, fA, fC, fR⟩
  clear kg fg kh fh kan kbn kr krn fA fC fR
  go_enter Try.func33, Try.ntmps33
  go_wp2_with fail
  obtain ⟨w0, hw0⟩ : ∃ v, v = (w.alloc (.cells #[.complex .f64 a b, .float .f64 r] 26)) := ⟨_, rfl⟩
  rw [← hw0]
  have d0 : w0.cell? ⟨w.heap.size, 0, none⟩ = some (.complex .f64 a b) := by simp [hw0, go_sem]
  have d1 : w0.cell? ⟨w.heap.size, 1, none⟩ = some (.float .f64 r) := by simp [hw0, go_sem]
  have s0 : w.heap.size + 1 ≤ w0.heap.size := by simp [hw0]
  have hB0 : Below w.heap.size w w0 := by rw [hw0]; exact bl_alloc (Below.refl _ _)
  have Q1 : Hid (∀ j, j < n → w0.cell? ⟨b1, j, none⟩ = some (.float .f64 (g j))) := fun j hj => by rw [hB0.cell l1, q1 j hj]
  have Q2 : Hid (∀ j, j < m → w0.cell? ⟨b2, j, none⟩ = some (.float .f64 (h j))) := fun j hj => by rw [hB0.cell l2, q2 j hj]
  clear hw0 q1 q2
  go_loopw [7, 9] (fun v i wr => ∃ k : Nat, k ≤ n ∧ i = .int .i64 k ∧ wr.ownsRow w0.heap.size 24 1 v k (fls g k) ∧ Below w0.heap.size w0 wr) (fun _ i _ => n - (intOf i).toNat)
  case atStart => exact ⟨0, Nat.zero_le _, rfl, World.ownsRow_nil _ _ _ _, Below.refl _ _⟩
  case round =>
    rename World => wr1
    obtain ⟨k, hk, rfl, hown1, hB1⟩ := hrel
    have hswr1 := hB1.size
    by_cases hlt : k < n
    · obtain ⟨x, hx⟩ : ∃ x, x = g k := ⟨_, rfl⟩
      have cx : wr1.cell? ⟨b1, k, none⟩ = some (.float .f64 x) := by rw [hB1.cell (by show b1 < _; omega), Q1.out k hlt, hx]
      have hx' : Hid (x = g k) := hx
      clear hx
      go_wp2_with (first | (at_builtin; refine wpList_append_at _ rfl (.tmp 23) (.tmp 28) 22 rfl w0.heap.size 24 i0 (.float .f64 0) 1 8 Try.underlying22 hi hz0 hz1 hz2 rfl (by decide) _ _ _ rfl (hown1.alloc _) ⟨wr1.heap.size, 0, none⟩ 1 1 [.float .f64 x] rfl rfl (cell_one (by simp [go_sem])) (one_float _) (by unfold maxLen; omega) (by omega) (by simp; omega) (by decide) ?_))
      intro v' w1 hown' hgrow _
      have R : w1.ownsRow w0.heap.size 24 1 v' (k + 1) (fls g (k + 1)) ∧ Below w0.heap.size w0 w1 := by
        refine ⟨by rw [fls_succ, ← hx'.out]; exact hown', ?_⟩
        exact Below.grown (Below.alloc hB1 (by omega) _) hgrow (by simp; omega) fun j hj => by
          have := (hown1.lt j hj).1
          omega
      clear hown' hgrow hown1 cx hB1
      go_wp2
      go_roundw
      case rel => exact ⟨k + 1, by omega, by go_num, R.1, R.2⟩
      case measure => simp [intOf]; omega
    · have hkn : n = k := by omega
      subst hkn
      clear hk hlt
      have Q2' : Hid (∀ j, j < m → wr1.cell? ⟨b2, j, none⟩ = some (.float .f64 (h j))) := fun j hj => by rw [hB1.cell (by show b2 < _; omega), Q2.out j hj]
      clear Q2
      go_wp2_with fail

      go_loopw [8, 10] (fun v i wr => ∃ k : Nat, k ≤ m ∧ i = .int .i64 k ∧ wr.ownsRow wr1.heap.size 24 1 v k (fls h k) ∧ Below wr1.heap.size wr1 wr) (fun _ i _ => m - (intOf i).toNat)
      case atStart => exact ⟨0, Nat.zero_le _, rfl, World.ownsRow_nil _ _ _ _, Below.refl _ _⟩
      case round =>
        rename World => wr2
        obtain ⟨k, hk, rfl, hown2, hB2⟩ := hrel
        have hswr2 := hB2.size
        by_cases hlt : k < m
        · obtain ⟨x, hx⟩ : ∃ x, x = h k := ⟨_, rfl⟩
          have cx : wr2.cell? ⟨b2, k, none⟩ = some (.float .f64 x) := by rw [hB2.cell (by show b2 < _; omega), Q2'.out k hlt, hx]
          have hx' : Hid (x = h k) := hx
          clear hx
          go_wp2_with (first | (at_builtin; refine wpList_append_at _ rfl (.tmp 36) (.tmp 41) 22 rfl wr1.heap.size 24 i0 (.float .f64 0) 1 8 Try.underlying22 hi hz0 hz1 hz2 rfl (by decide) _ _ _ rfl (hown2.alloc _) ⟨wr2.heap.size, 0, none⟩ 1 1 [.float .f64 x] rfl rfl (cell_one (by simp [go_sem])) (one_float _) (by unfold maxLen; omega) (by omega) (by simp; omega) (by decide) ?_))
          intro v' w1 hown' hgrow _
          have R : w1.ownsRow wr1.heap.size 24 1 v' (k + 1) (fls h (k + 1)) ∧ Below wr1.heap.size wr1 w1 := by
            refine ⟨by rw [fls_succ, ← hx'.out]; exact hown', ?_⟩
            exact Below.grown (Below.alloc hB2 (by omega) _) hgrow (by simp; omega) fun j hj => by
              have := (hown2.lt j hj).1
              omega
          clear hown' hgrow hown2 cx hB2
          go_wp2
          go_roundw
          case rel => exact ⟨k + 1, by omega, by go_num, R.1, R.2⟩
          case measure => simp [intOf]; omega
        · have hkn : m = k := by omega
          subst hkn
          clear hk hlt
          have d0' : wr2.cell? ⟨w.heap.size, 0, none⟩ = some (.complex .f64 a b) := by rw [hB2.cell (by show w.heap.size < _; omega), hB1.cell (by show w.heap.size < _; omega), d0]
          have d1' : wr2.cell? ⟨w.heap.size, 1, none⟩ = some (.float .f64 r) := by rw [hB2.cell (by show w.heap.size < _; omega), hB1.cell (by show w.heap.size < _; omega), d1]
          have hownA := own_below hown1 (Nat.le_refl _) hB2
          have ltA := hown1.lt
          have ltB := hown2.lt
          clear hown1 d0 d1
          go_wp2_with (first | (at_builtin; refine wpList_append_at _ rfl (.tmp 43) (.tmp 48) 22 rfl w0.heap.size 24 i0 (.float .f64 0) 1 8 Try.underlying22 hi hz0 hz1 hz2 rfl (by decide) _ _ _ rfl (hownA.alloc _) ⟨wr2.heap.size, 0, none⟩ 1 1 [.float .f64 an] rfl rfl (cell_one (by simp [go_sem])) (one_float _) (by unfold maxLen; omega) (by omega) (by simp; omega) (by decide) ?_))
          intro v1 w1 o1 g1 nw1
          have ne1 : u8.ownBlock = none ∨ u8.ownBlock ≠ u7.ownBlock := by
            cases e8 : u8.ownBlock with
            | none => exact .inl rfl
            | some j => refine .inr fun e => ?_; have q1 := (ltB j e8).1; have q2 := (ltA j e.symm).2; omega
          have d0z : w1.cell? ⟨w.heap.size, 0, none⟩ = some (.complex .f64 a b) := g1.cell (bkeep (bl_alloc (Below.refl _ _)) d0' (cell_lt d0')) (fun e => by have := (ltA _ e.symm).1; (try simp at this); omega)
          have d1y : w1.cell? ⟨w.heap.size, 1, none⟩ = some (.float .f64 r) := g1.cell (bkeep (bl_alloc (Below.refl _ _)) d1' (cell_lt d1')) (fun e => by have := (ltA _ e.symm).1; (try simp at this); omega)
          have hownB : w1.ownsRow wr1.heap.size 24 1 u8 m (fls h m) := (hown2.alloc _).kept g1 ne1
          have sz1 := g1.size
          simp at sz1
          have hBa : Below w0.heap.size w0 w1 := Below.grown (Below.alloc (hB1.trans (hB2.mono hswr1)) (by omega) _) g1 (by simp; omega) fun j hj => (ltA j hj).1
          clear hown2 hownA d0' d1'
          go_wp2_with (first | (at_builtin; refine wpList_append_at _ rfl (.tmp 50) (.tmp 55) 22 rfl wr1.heap.size 24 i0 (.float .f64 0) 1 8 Try.underlying22 hi hz0 hz1 hz2 rfl (by decide) _ _ _ rfl (hownB.alloc _) ⟨w1.heap.size, 0, none⟩ 1 1 [.float .f64 bn] rfl rfl (cell_one (by simp [go_sem])) (one_float _) (by unfold maxLen; omega) (by omega) (by simp; omega) (by decide) ?_))
          intro v2 w2 o2 g2 nw2
          have ne2 : v1.ownBlock = none ∨ v1.ownBlock ≠ u8.ownBlock := by
            cases e8 : v1.ownBlock with
            | none => exact .inl rfl
            | some j =>
              refine .inr fun e => ?_
              have q1 := ltB j e.symm
              rcases nw1 j e8 with q | q
              · have := (ltA j q).2; omega
              · (try simp at q); omega
          have d1z : w2.cell? ⟨w.heap.size, 1, none⟩ = some (.float .f64 r) := g2.cell (bkeep (bl_alloc (Below.refl _ _)) d1y (cell_lt d1y)) (fun e => by have := (ltB _ e.symm).1; (try simp at this); omega)
          have oA : w2.ownsRow w0.heap.size 24 1 v1 (n + 1) (fls (ext g n an) (n + 1)) := by rw [← fls_ext]; exact (o1.alloc _).kept g2 ne2
          have oB : w2.ownsRow wr1.heap.size 24 1 v2 (m + 1) (fls (ext h m bn) (m + 1)) := by rw [← fls_ext]; exact o2
          have sz2 := g2.size
          simp at sz2
          have hBb : Below w0.heap.size w0 w2 := Below.grown (Below.alloc hBa (by omega) _) g2 (by simp; omega) fun j hj => by have := (ltB j hj).1; omega
          obtain ⟨ga, ca, rfl, lga, QA'⟩ := Arr.own oA (by omega)
          obtain ⟨gb, cb, rfl, lgb, QB'⟩ := Arr.own oB (by omega)
          have QA : Hid (∀ j, j < n + 1 → w2.cell? ⟨ga, j, none⟩ = some (.float .f64 (ext g n an j))) := QA'
          have QB : Hid (∀ j, j < m + 1 → w2.cell? ⟨gb, j, none⟩ = some (.float .f64 (ext h m bn j))) := QB'
          have KA : Hid ((∀ j, Key (ext g n an j) (extI G n (-A) j)) ∧ (∀ j, Fin (extI G n (-A) j))) := ⟨key_ext HP.out.1 HP.out.2.2.2.2.1, fin_ext HP.out.2.1 HP.out.2.2.2.2.2.2.2.2.1.neg⟩
          have KB : Hid ((∀ j, Key (ext h m bn j) (extI H m (-C) j)) ∧ (∀ j, Fin (extI H m (-C) j))) := ⟨key_ext HP.out.2.2.1 HP.out.2.2.2.2.2.1, fin_ext HP.out.2.2.2.1 HP.out.2.2.2.2.2.2.2.2.2.1.neg⟩
          clear QA' QB' o1 o2 g1 g2 nw1 nw2 ne1 ne2 hownB oA oB ltA ltB hBa d0z d1y Q1
          go_wp2_with fail
          go_at_call 36
          refine (nought_any _).mono ?_
          rintro e w3 ⟨rfl, hX3, hB3⟩
          obtain ⟨w4, rfl⟩ : ∃ u, u = w2 := ⟨_, rfl⟩
          obtain ⟨bd, hbd⟩ : ∃ u, u = w4.heap.size := ⟨_, rfl⟩
          obtain ⟨be, hbe⟩ : ∃ u, u = w4.heap.size + 1 := ⟨_, rfl⟩
          rw [← hbe, ← hbd] at hX3
          rw [← hbe]
          rw [← hbd] at hB3
          have X0 : XS w4 be bd 0 0 w3 := ⟨_, hX3, fun j => by simp, by rw [dv_zero]; rfl, hB3⟩
          have lbd : ga < bd ∧ gb < bd ∧ w.heap.size < bd := by omega
          have Hbd : Hid (bd = w4.heap.size) := hbd
          clear hbd hbe hX3 hB3
          go_wp2_with fail

          go_loopw [12] (fun i wr => ∃ p : Nat, p ≤ (n + 1) ∧ i = .int .i64 p ∧ XS w4 be bd (0 + p * (n + 1)) (0 + sumV (extI G n (-A)) p * sumV (extI G n (-A)) (n + 1)) wr) (fun i _ => (n + 1) - (intOf i).toNat)
          case atStart => exact ⟨0, Nat.zero_le _, rfl, by
            have e : 0 + sumV (extI G n (-A)) 0 * sumV (extI G n (-A)) (n + 1) = 0 := by show 0 + 0 * _ = _; omega
            rw [Nat.zero_mul, e]; exact X0⟩
          case round =>
            rename World => wr3
            obtain ⟨p, hp, rfl, hXwr3⟩ := hrel
            by_cases hlt : p < (n + 1)
            · clear X0
              have hltI : (p : Int) < (n : Int) + 1 := by omega
              have hltD : decide ((p : Int) < (n : Int) + 1) = true := decide_eq_true hltI
              go_wp2_with fail
              try rw [hltD]
              clear hltD
              go_loopw [13] (fun i wr => ∃ q : Nat, q ≤ (n + 1) ∧ i = .int .i64 q ∧ XS w4 be bd (0 + p * (n + 1) + q) (0 + sumV (extI G n (-A)) p * sumV (extI G n (-A)) (n + 1) + Vk ((extI G n (-A)) p) * sumV (extI G n (-A)) q) wr) (fun i _ => (n + 1) - (intOf i).toNat)
              case atStart => exact ⟨0, Nat.zero_le _, rfl, by
                have e : 0 + sumV (extI G n (-A)) p * sumV (extI G n (-A)) (n + 1) + Vk ((extI G n (-A)) p) * sumV (extI G n (-A)) 0 = 0 + sumV (extI G n (-A)) p * sumV (extI G n (-A)) (n + 1) := by show _ + _ * 0 = _; omega
                rw [e, Nat.add_zero]; exact hXwr3⟩
              case round =>
                rename World => wq
                obtain ⟨q, hq, rfl, hXq⟩ := hrel
                clear hXwr3
                by_cases hltq : q < (n + 1)
                · have hcp : 0 + p * (n + 1) + q ≤ 400 := by
                    have := Nat.mul_le_mul (show p ≤ 4 by omega) (show (n + 1) ≤ 5 by omega)
                    have := Nat.mul_le_mul (show n + 1 ≤ 5 by omega) (show n + 1 ≤ 5 by omega)
                    omega
                  obtain ⟨x, hx⟩ : ∃ x, x = (ext g n an) p := ⟨_, rfl⟩
                  obtain ⟨y, hy⟩ : ∃ y, y = (ext g n an) q := ⟨_, rfl⟩
                  have cx : wq.cell? ⟨ga, p, none⟩ = some (.float .f64 x) := by rw [hXq.low.cell (by show ga < _; omega), QA.out p hlt, hx]
                  have cy : wq.cell? ⟨ga, q, none⟩ = some (.float .f64 y) := by rw [hXq.low.cell (by show ga < _; omega), QA.out q hltq, hy]
                  have kx : Key x ((extI G n (-A)) p) := hx ▸ KA.out.1 p
                  have ky : Key y ((extI G n (-A)) q) := hy ▸ KA.out.1 q
                  have A' := fun n => (hXq.drewN n).add hcp kx ky (KA.out.2 p) (KA.out.2 q)
                  clear hx hy kx ky
                  go_wp2_with fail
                  go_region_with (go_at_call 37; refine (A' _).mono ?_; rintro e w' ⟨rfl, hX', _⟩)
                  all_goals (clear A' cx cy hXq; go_wp2; go_roundw)
                  all_goals first
                    | exact ⟨q + 1, by omega, by go_num, by rw [inner_step] at hX'; exact hX'⟩
                    | (simp [intOf]; omega)
                · have hqN : q = (n + 1) := by omega
                  subst hqN
                  clear hq hltq
                  have hXn : XS w4 be bd (0 + (p + 1) * (n + 1)) (0 + sumV (extI G n (-A)) (p + 1) * sumV (extI G n (-A)) (n + 1)) wq := by
                    have e : 0 + sumV (extI G n (-A)) (p + 1) * sumV (extI G n (-A)) (n + 1) = 0 + sumV (extI G n (-A)) p * sumV (extI G n (-A)) (n + 1) + Vk ((extI G n (-A)) p) * sumV (extI G n (-A)) (n + 1) := (sq_step _ _ _ _).symm
                    rw [e, Nat.add_one_mul p (n + 1), ← Nat.add_assoc]
                    exact hXq
                  clear hXq
                  go_wp2
                  go_roundw
                  case rel => exact ⟨p + 1, by omega, by go_num, hXn⟩
                  case measure => simp [intOf]; omega
            · have hpN : p = (n + 1) := by omega
              subst hpN
              clear hp hlt X0
              try rw [show ((n + 1 : Nat) : Int) = (n : Int) + 1 from rfl]
              have X1 : XS w4 be bd ((n + 1) * (n + 1)) (sumV (extI G n (-A)) (n + 1) * sumV (extI G n (-A)) (n + 1)) wr3 := by rw [Nat.zero_add, Int.zero_add] at hXwr3; exact hXwr3
              clear hXwr3
              go_wp2_with fail

              go_loopw [14] (fun i wr => ∃ p : Nat, p ≤ (m + 1) ∧ i = .int .i64 p ∧ XS w4 be bd ((n + 1) * (n + 1) + p * (m + 1)) (sumV (extI G n (-A)) (n + 1) * sumV (extI G n (-A)) (n + 1) + sumV (extI H m (-C)) p * sumV (extI H m (-C)) (m + 1)) wr) (fun i _ => (m + 1) - (intOf i).toNat)
              case atStart => exact ⟨0, Nat.zero_le _, rfl, by
                have e : sumV (extI G n (-A)) (n + 1) * sumV (extI G n (-A)) (n + 1) + sumV (extI H m (-C)) 0 * sumV (extI H m (-C)) (m + 1) = sumV (extI G n (-A)) (n + 1) * sumV (extI G n (-A)) (n + 1) := by show sumV (extI G n (-A)) (n + 1) * sumV (extI G n (-A)) (n + 1) + 0 * _ = _; omega
                rw [Nat.zero_mul, e]; exact X1⟩
              case round =>
                rename World => wr4
                obtain ⟨p, hp, rfl, hXwr4⟩ := hrel
                by_cases hlt : p < (m + 1)
                · clear X1
                  have hltI : (p : Int) < (m : Int) + 1 := by omega
                  have hltD : decide ((p : Int) < (m : Int) + 1) = true := decide_eq_true hltI
                  go_wp2_with fail
                  try rw [hltD]
                  clear hltD
                  go_loopw [15] (fun i wr => ∃ q : Nat, q ≤ (m + 1) ∧ i = .int .i64 q ∧ XS w4 be bd ((n + 1) * (n + 1) + p * (m + 1) + q) (sumV (extI G n (-A)) (n + 1) * sumV (extI G n (-A)) (n + 1) + sumV (extI H m (-C)) p * sumV (extI H m (-C)) (m + 1) + Vk ((extI H m (-C)) p) * sumV (extI H m (-C)) q) wr) (fun i _ => (m + 1) - (intOf i).toNat)
                  case atStart => exact ⟨0, Nat.zero_le _, rfl, by
                    have e : sumV (extI G n (-A)) (n + 1) * sumV (extI G n (-A)) (n + 1) + sumV (extI H m (-C)) p * sumV (extI H m (-C)) (m + 1) + Vk ((extI H m (-C)) p) * sumV (extI H m (-C)) 0 = sumV (extI G n (-A)) (n + 1) * sumV (extI G n (-A)) (n + 1) + sumV (extI H m (-C)) p * sumV (extI H m (-C)) (m + 1) := by show _ + _ * 0 = _; omega
                    rw [e, Nat.add_zero]; exact hXwr4⟩
                  case round =>
                    rename World => wq
                    obtain ⟨q, hq, rfl, hXq⟩ := hrel
                    clear hXwr4
                    by_cases hltq : q < (m + 1)
                    · have hcp : (n + 1) * (n + 1) + p * (m + 1) + q ≤ 400 := by
                        have := Nat.mul_le_mul (show p ≤ 4 by omega) (show (m + 1) ≤ 5 by omega)
                        have := Nat.mul_le_mul (show n + 1 ≤ 5 by omega) (show n + 1 ≤ 5 by omega)
                        omega
                      obtain ⟨x, hx⟩ : ∃ x, x = (ext h m bn) p := ⟨_, rfl⟩
                      obtain ⟨y, hy⟩ : ∃ y, y = (ext h m bn) q := ⟨_, rfl⟩
                      have cx : wq.cell? ⟨gb, p, none⟩ = some (.float .f64 x) := by rw [hXq.low.cell (by show gb < _; omega), QB.out p hlt, hx]
                      have cy : wq.cell? ⟨gb, q, none⟩ = some (.float .f64 y) := by rw [hXq.low.cell (by show gb < _; omega), QB.out q hltq, hy]
                      have kx : Key x ((extI H m (-C)) p) := hx ▸ KB.out.1 p
                      have ky : Key y ((extI H m (-C)) q) := hy ▸ KB.out.1 q
                      have A' := fun n => (hXq.drewN n).add hcp kx ky (KB.out.2 p) (KB.out.2 q)
                      clear hx hy kx ky
                      go_wp2_with fail
                      go_region_with (go_at_call 37; refine (A' _).mono ?_; rintro e w' ⟨rfl, hX', _⟩)
                      all_goals (clear A' cx cy hXq; go_wp2; go_roundw)
                      all_goals first
                        | exact ⟨q + 1, by omega, by go_num, by rw [inner_step] at hX'; exact hX'⟩
                        | (simp [intOf]; omega)
                    · have hqN : q = (m + 1) := by omega
                      subst hqN
                      clear hq hltq
                      have hXn : XS w4 be bd ((n + 1) * (n + 1) + (p + 1) * (m + 1)) (sumV (extI G n (-A)) (n + 1) * sumV (extI G n (-A)) (n + 1) + sumV (extI H m (-C)) (p + 1) * sumV (extI H m (-C)) (m + 1)) wq := by
                        have e : sumV (extI G n (-A)) (n + 1) * sumV (extI G n (-A)) (n + 1) + sumV (extI H m (-C)) (p + 1) * sumV (extI H m (-C)) (m + 1) = sumV (extI G n (-A)) (n + 1) * sumV (extI G n (-A)) (n + 1) + sumV (extI H m (-C)) p * sumV (extI H m (-C)) (m + 1) + Vk ((extI H m (-C)) p) * sumV (extI H m (-C)) (m + 1) := (sq_step _ _ _ _).symm
                        rw [e, Nat.add_one_mul p (m + 1), ← Nat.add_assoc]
                        exact hXq
                      clear hXq
                      go_wp2
                      go_roundw
                      case rel => exact ⟨p + 1, by omega, by go_num, hXn⟩
                      case measure => simp [intOf]; omega
                · have hpN : p = (m + 1) := by omega
                  subst hpN
                  clear hp hlt X1
                  try rw [show ((m + 1 : Nat) : Int) = (m : Int) + 1 from rfl]
                  have Hs : Hid (sumV (extI G n (-A)) (n + 1) = sumV G n - Vk A ∧ sumV (extI H m (-C)) (m + 1) = sumV H m - Vk C) := ⟨by rw [sum_ext, Vk_neg]; omega, by rw [sum_ext, Vk_neg]; omega⟩
                  have d1x : wr4.cell? ⟨w.heap.size, 1, none⟩ = some (.float .f64 r) := by rw [hXwr4.low.cell (by show w.heap.size < _; omega), d1z]
                  have hcp : (n + 1) * (n + 1) + (m + 1) * (m + 1) ≤ 400 := by
                    have := Nat.mul_le_mul (show n + 1 ≤ 5 by omega) (show n + 1 ≤ 5 by omega)
                    have := Nat.mul_le_mul (show m + 1 ≤ 5 by omega) (show m + 1 ≤ 5 by omega)
                    omega
                  go_wp2_with fail
                  go_at_call 37
                  refine (hXwr4.add hcp HP.out.2.2.2.2.2.2.2.1 HP.out.2.2.2.2.2.2.1 HP.out.2.2.2.2.2.2.2.2.2.2.neg HP.out.2.2.2.2.2.2.2.2.2.2).mono ?_
                  rintro e w5 ⟨rfl, hX5, _⟩
                  obtain ⟨F, hX, hf, hd, hB5⟩ := hX5
                  have hBall : Below w.heap.size w w5 := hB0.trans ((hBb.trans (hB5.mono (by have := Hbd.out; omega))).mono (by omega))
                  have hval : dv F 190 = ((sumV G n - Vk A) * (sumV G n - Vk A) + (sumV H m - Vk C) * (sumV H m - Vk C) - Vk R * Vk R) * 4096 := by rw [hd, Hs.out.1, Hs.out.2, Vk_neg, Int.neg_mul, ← Int.sub_eq_add_neg]
                  have hbd : dv F 190 < ((2 ^ (24 * 190) : Nat) : Int) := by
                    have b := big64
                    have v1 := sum_sq KA.out.2 (show n + 1 ≤ 5 by omega)
                    have v2 := sum_sq KB.out.2 (show m + 1 ≤ 5 by omega)
                    have v3 := sq_nn (Vk R)
                    rw [hd, Vk_neg, Int.neg_mul]
                    omega
                  have hsg : (dv F 190).sign = ((sumV G n - Vk A) * (sumV G n - Vk A) + (sumV H m - Vk C) * (sumV H m - Vk C) - Vk R * Vk R).sign := by
                    rw [hval]
                    exact sign_scale _ _ (by omega)
                  have hf' : ∀ j, -1152921504606846976 ≤ F j ∧ F j ≤ 1152921504606846976 := fun j => by have := hf j; omega
                  have hsn := sign_any _ _ F w5 hX hf' hbd
                  rw [hsg] at hsn
                  have hle := sign_le0 ((sumV G n - Vk A) * (sumV G n - Vk A) + (sumV H m - Vk C) * (sumV H m - Vk C) - Vk R * Vk R)
                  clear hval hbd hsg hf' hX hf hd hB5 hXwr4
                  obtain ⟨E0, hE0⟩ : ∃ v, v = ((sumV G n - Vk A) * (sumV G n - Vk A) + (sumV H m - Vk C) * (sumV H m - Vk C) - Vk R * Vk R) := ⟨_, rfl⟩
                  rw [← hE0] at hsn hle
                  have HE : Hid (E0 = ((sumV G n - Vk A) * (sumV G n - Vk A) + (sumV H m - Vk C) * (sumV H m - Vk C) - Vk R * Vk R)) := hE0
                  clear hE0
                  generalize E0.sign = SG at hsn hle
                  go_wp2_with fail
                  go_at_call 38
                  refine hsn.mono ?_
                  rintro e w' ⟨rfl, rfl⟩
                  go_wp2
                  go_ret
                  exact ⟨congrArg (fun v => Ending.returned (.bool (decide (v ≤ 0)))) HE.out, hBall⟩
end Go.Proofs.Ytacnclofbnafiab
