import Derived.Test.YtacnclofbnafiabGreatDoorR1
import Derived.BigRegion
namespace Go.Proofs.YtacnclofbnafiabGreatDoor
open Go.RowKit Fl

/-- What the first k of the three digits are worth. -/
def dgs (m k : Nat) : Int := dv (dg m) k
/-- Products of ints, behind a name. -/
def mulI (x y : Int) : Int := IntKind.i64.wrap (x * y)
theorem mulI_law (t : TypeId) (x y : Int) : binOp .mul t (.int .i64 x) (.int .i64 y) = pure (.int .i64 (mulI x y)) := by
  rw [binOp_mul]; rfl
attribute [local go_sem ↓] mulI_law
theorem dg_bd (m k : Nat) (hm : m < 9007199254740992) : 0 ≤ dg m k ∧ dg m k ≤ 16777216 := by
  unfold dg; split
  · omega
  · split <;> omega
theorem dg_mul (m n k l : Nat) (hm : m < 9007199254740992) (hn : n < 9007199254740992) : 0 ≤ dg m k * dg n l ∧ dg m k * dg n l ≤ 281474976710656 := by
  obtain ⟨h1, h2⟩ := dg_bd m k hm
  obtain ⟨h3, h4⟩ := dg_bd n l hn
  refine ⟨Int.mul_nonneg h1 h3, ?_⟩
  have := Int.mul_le_mul h2 h4 h3 (by omega : (0 : Int) ≤ 16777216)
  omega
theorem bl_drewN' {B : Nat} {a w : World} (h : Below B a w) (n : Nat) : Below B a (w.drewN n) := h.trans ⟨rfl, rfl, rfl, Nat.le_refl _, fun _ _ => rfl⟩
theorem prod_bd (sh c : Int) (hc0 : 0 ≤ c) (hc : c ≤ 16777216) (hs0 : 0 < sh) (hs1 : sh ≤ 8388608) : 0 ≤ c * sh ∧ c * sh ≤ 140737488355328 := by
  refine ⟨Int.mul_nonneg hc0 (by omega), ?_⟩
  have := Int.mul_le_mul hc hs1 (by omega) (by omega : (0 : Int) ≤ 16777216)
  omega
/-- What is stored, without its wraps. -/
theorem upd_any (st c sh x : Int) (hst : st = 1 ∨ st = -1) (hc0 : 0 ≤ c) (hc : c ≤ 16777216) (hs0 : 0 < sh) (hs1 : sh ≤ 8388608) (hx1 : -1152921504606846976 ≤ x) (hx2 : x ≤ 1152921504606846976) :
    wrap64 (x + wrap64 (wrap64 (wrap64 st * c) * sh)) = x + st * c * sh := by
  obtain ⟨h1, h2⟩ := prod_bd sh c hc0 hc hs0 hs1
  rcases hst with rfl | rfl
  · have e1 : wrap64 (1 : Int) = 1 := by unfold wrap64; omega
    rw [e1, Int.one_mul]
    have e2 : wrap64 c = c := by unfold wrap64; omega
    rw [e2]
    have e3 : wrap64 (c * sh) = c * sh := by unfold wrap64; omega
    rw [e3]
    unfold wrap64; omega
  · have e1 : wrap64 (-1 : Int) = -1 := by unfold wrap64; omega
    have e0 : -1 * c = -c := by omega
    have e4 : -c * sh = -(c * sh) := Int.neg_mul c sh
    rw [e1, e0]
    have e2 : wrap64 (-c) = -c := by unfold wrap64; omega
    rw [e2, e4]
    have e3 : wrap64 (-(c * sh)) = -(c * sh) := by unfold wrap64; omega
    rw [e3]
    unfold wrap64; omega
theorem upd_val (st p sh x : Int) (hst : st = 1 ∨ st = -1) (hs0 : 0 < sh) (hs1 : sh ≤ 8388608) (hx1 : -1152921504606846976 ≤ x) (hx2 : x ≤ 1152921504606846976) :
    wrap64 (x + wrap64 (wrap64 (wrap64 st * (p % 16777216)) * sh)) = x + st * (p % 16777216) * sh :=
  upd_any st _ sh x hst (by omega) (by omega) hs0 hs1 hx1 hx2
theorem upd_val2 (st p sh x : Int) (hst : st = 1 ∨ st = -1) (p0 : 0 ≤ p) (p1 : p ≤ 281474976710656) (hs0 : 0 < sh) (hs1 : sh ≤ 8388608) (hx1 : -1152921504606846976 ≤ x) (hx2 : x ≤ 1152921504606846976) :
    wrap64 (x + wrap64 (wrap64 (wrap64 st * (p / 16777216)) * sh)) = x + st * (p / 16777216) * sh :=
  upd_any st _ sh x hst (by omega) (by omega) hs0 hs1 hx1 hx2
theorem st_bd (st c sh : Int) (hst : st = 1 ∨ st = -1) (hc0 : 0 ≤ c) (hc : c ≤ 16777216) (hs0 : 0 < sh) (hs1 : sh ≤ 8388608) : -140737488355328 ≤ st * c * sh ∧ st * c * sh ≤ 140737488355328 := by
  obtain ⟨h1, h2⟩ := prod_bd sh c hc0 hc hs0 hs1
  rcases hst with rfl | rfl
  · rw [Int.one_mul]; omega
  · rw [show -1 * c = -c by omega, Int.neg_mul]; omega
theorem upd2_bd {f : Nat → Int} {q : Nat} {d1 d2 K L : Int} (hf : ∀ j, -K ≤ f j ∧ f j ≤ K) (h1 : -L ≤ d1 ∧ d1 ≤ L) (h2 : -L ≤ d2 ∧ d2 ≤ L) : ∀ j, -(K + L) ≤ upd (upd f q d1) (q + 1) d2 j ∧ upd (upd f q d1) (q + 1) d2 j ≤ K + L := by
  intro j
  have := hf j
  unfold upd
  by_cases e1 : j = q + 1
  · subst e1
    rw [if_pos rfl, if_neg (by omega)]; omega
  · rw [if_neg e1]
    split <;> omega
theorem dgs_succ (m k : Nat) : dgs m (k + 1) = dgs m k + dg m k * ((2 ^ (24 * k) : Nat) : Int) := rfl
theorem dgs_three (m : Nat) : dgs m 3 = m := by
  rw [dgs_succ, dgs_succ, dgs_succ]
  have e0 : dgs m 0 = 0 := rfl
  have e1 : ((2 ^ (24 * 0) : Nat) : Int) = 1 := rfl
  have e2 : ((2 ^ (24 * 1) : Nat) : Int) = 16777216 := rfl
  have e3 : ((2 ^ (24 * 2) : Nat) : Int) = 281474976710656 := rfl
  rw [e0, e1, e2, e3]
  unfold dg
  simp only [if_true, show (1 : Nat) ≠ 0 by omega, show (2 : Nat) ≠ 0 by omega, show (2 : Nat) ≠ 1 by omega, if_false]
  omega
/-- The value after one more product. -/
theorem dv_more (f f' : Nat → Int) (k l a q n : Nat) (st sh A x y p : Int) (hq : q = k + l + a) (hqn : q + 1 < n) (hp : p = x * y) (D : Int)
    (h : dv f' n = dv f n + st * (A + x * ((2 ^ (24 * k) : Nat) : Int) * D) * sh * ((2 ^ (24 * a) : Nat) : Int)) :
    dv (upd (upd f' q (st * (p % 16777216) * sh)) (q + 1) (st * (p / 16777216) * sh)) n = dv f n + st * (A + x * ((2 ^ (24 * k) : Nat) : Int) * (D + y * ((2 ^ (24 * l) : Nat) : Int))) * sh * ((2 ^ (24 * a) : Nat) : Int) := by
  rw [dv_step f' q n st p sh hqn, h, hp, hq]
  have e : ((2 ^ (24 * (k + l + a)) : Nat) : Int) = ((2 ^ (24 * k) : Nat) : Int) * ((2 ^ (24 * l) : Nat) : Int) * ((2 ^ (24 * a) : Nat) : Int) := by
    rw [show 24 * (k + l + a) = 24 * k + 24 * l + 24 * a by omega, Nat.pow_add, Nat.pow_add, Int.natCast_mul, Int.natCast_mul]
  rw [e]
  generalize ((2 ^ (24 * k) : Nat) : Int) = E1
  generalize ((2 ^ (24 * l) : Nat) : Int) = E2
  generalize ((2 ^ (24 * a) : Nat) : Int) = E3
  rw [Int.mul_add (x * E1), ← Int.add_assoc A]
  generalize A + x * E1 * D = B
  rw [Int.mul_add st B, Int.add_mul, Int.add_mul, ← Int.add_assoc (dv f n)]
  congr 1
  simp only [Int.mul_left_comm, Int.mul_comm]
theorem cells_three (w : World) (a b c : Int) (f : Nat → Int) (t : TypeId) (k : Nat) (hk : k < 3) (h0 : f 0 = a) (h1 : f 1 = b) (h2 : f 2 = c) :
    (w.alloc (.cells #[.int .i64 a, .int .i64 b, .int .i64 c] t)).cell? ⟨w.heap.size, k, none⟩ = some (.int .i64 (f k)) := by
  rw [cell_new]
  have : k = 0 ∨ k = 1 ∨ k = 2 := by omega
  rcases this with rfl | rfl | rfl
  · rw [h0]; rfl
  · rw [h1]; rfl
  · rw [h2]; rfl
set_option maxRecDepth 20000 in
set_option maxHeartbeats 2000000 in
theorem exadd_walk (be bd : Nat) (f : Nat → Int) (K : Int) (w : World) (X Y m n a : Nat) (S T e1 e2 sh : Int) (hX : OwnX be bd f w) (hf : ∀ j, -K ≤ f j ∧ f j ≤ K)
    (hK0 : 0 ≤ K) (hK : K ≤ 576460752303423488) (hS : S = 1 ∨ S = -1) (hT : T = 1 ∨ T = -1) (hm : m < 9007199254740992) (hn : n < 9007199254740992)
    (b1 : -1074 ≤ e1) (b2 : e1 ≤ 971) (b3 : -1074 ≤ e2) (b4 : e2 ≤ 971) (ha : (e1 + e2 + 2160) / 24 = a) (hsh : wrap64 (2 ^ ((e1 + e2 + 2160) % 24).toNat) = sh)
    (hs0 : 0 < sh) (hs1 : sh ≤ 8388608)
    (P1 : ∀ w, Calls Tryz.prog 82 #[.float .f64 X] w fun e w' => e = .returned (.tuple #[.int .i64 S, .int .i64 m, .int .i64 e1]) ∧ w' = w)
    (P2 : ∀ w, Calls Tryz.prog 82 #[.float .f64 Y] w fun e w' => e = .returned (.tuple #[.int .i64 T, .int .i64 n, .int .i64 e2]) ∧ w' = w) :
    Calls Tryz.prog 47 #[.pointer (some ⟨be, 0, none⟩), .float .f64 X, .float .f64 Y] w
      fun e w' => e = .returned (.tuple #[]) ∧ Below bd w w' ∧ ∃ f', OwnX be bd f' w' ∧ (∀ j, -(K + 1266637395197952) ≤ f' j ∧ f' j ≤ K + 1266637395197952)
        ∧ dv f' 190 = dv f 190 + S * T * ((m : Int) * n) * sh * ((2 ^ (24 * a) : Nat) : Int) := by
  have T1 := three_any m hm
  have T2 := three_any n hn
  have hlt1 := hX.lt1
  have hlt2 := hX.lt2
  have HXo : Hid (OwnX be bd f w) := hX
  have Hf : Hid (∀ j, -K ≤ f j ∧ f j ≤ K) := hf
  have HS : Hid (S = 1 ∨ S = -1) := hS
  have HT : Hid (T = 1 ∨ T = -1) := hT
  have a0 : a ≤ 170 := by omega
  have HSH : Hid (wrap64 (2 ^ ((e1 + e2 + 2160) % 24).toNat) = sh) := hsh
  have Hm : Hid (m < 9007199254740992) := hm
  have Hn : Hid (n < 9007199254740992) := hn
  clear hX hf hS hT hm hn hsh
  go_enter Tryz.func47, Tryz.ntmps47
  go_wp2_with fail
  go_at_call 82
  refine (P1 _).mono ?_
  rintro e w' ⟨rfl, rfl⟩
  go_wp2_with fail
  go_at_call 82
  refine (P2 _).mono ?_
  rintro e w' ⟨rfl, rfl⟩
  go_wp2_with fail
  go_at_call 83
  refine (T1 _).mono ?_
  rintro e w1 ⟨rfl, rfl⟩
  go_wp2_with fail
  go_at_call 83
  refine (T2 _).mono ?_
  rintro e w1 ⟨rfl, rfl⟩
  go_wp2_with fail
  rw [HSH.out]
  have hbw : Below bd w' ((w'.alloc (.cells #[.int .i64 (dg m 0), .int .i64 (dg m 1), .int .i64 (dg m 2)] 3)).alloc (.cells #[.int .i64 (dg n 0), .int .i64 (dg n 1), .int .i64 (dg n 2)] 3)) :=
    ((Below.refl _ _).alloc (by omega) _).alloc (by simp; omega) _
  have hxw : OwnX be bd f ((w'.alloc (.cells #[.int .i64 (dg m 0), .int .i64 (dg m 1), .int .i64 (dg m 2)] 3)).alloc (.cells #[.int .i64 (dg n 0), .int .i64 (dg n 1), .int .i64 (dg n 2)] 3)) :=
    HXo.out.below (((Below.refl _ _).alloc (Nat.le_refl _) _).alloc (by simp) _)
  have hcu : ∀ j, j < 3 → ((w'.alloc (.cells #[.int .i64 (dg m 0), .int .i64 (dg m 1), .int .i64 (dg m 2)] 3)).alloc (.cells #[.int .i64 (dg n 0), .int .i64 (dg n 1), .int .i64 (dg n 2)] 3)).cell? ⟨w'.heap.size, j, none⟩ = some (.int .i64 (dg m j)) := by
    intro j hj
    rw [World.cell?_alloc_lt (h := by simp)]
    exact cells_three w' _ _ _ (dg m) 3 j hj rfl rfl rfl
  have hcv : ∀ j, j < 3 → ((w'.alloc (.cells #[.int .i64 (dg m 0), .int .i64 (dg m 1), .int .i64 (dg m 2)] 3)).alloc (.cells #[.int .i64 (dg n 0), .int .i64 (dg n 1), .int .i64 (dg n 2)] 3)).cell? ⟨w'.heap.size + 1, j, none⟩ = some (.int .i64 (dg n j)) := by
    intro j hj
    have := cells_three (w'.alloc (.cells #[.int .i64 (dg m 0), .int .i64 (dg m 1), .int .i64 (dg m 2)] 3)) _ _ _ (dg n) 3 j hj rfl rfl rfl
    rwa [show (w'.alloc (.cells #[.int .i64 (dg m 0), .int .i64 (dg m 1), .int .i64 (dg m 2)] 3)).heap.size = w'.heap.size + 1 by simp] at this
  have hsz : w'.heap.size + 1 < ((w'.alloc (.cells #[.int .i64 (dg m 0), .int .i64 (dg m 1), .int .i64 (dg m 2)] 3)).alloc (.cells #[.int .i64 (dg n 0), .int .i64 (dg n 1), .int .i64 (dg n 2)] 3)).heap.size := by simp
  have HBW : Hid _ := hbw
  have HXW : Hid _ := hxw
  have HCU : Hid _ := hcu
  have HCV : Hid _ := hcv
  have HSZ : Hid _ := hsz
  clear hbw hxw hcu hcv hsz
  go_loopw [16] (fun i wr => ∃ k : Nat, k ≤ 3 ∧ i = .int .i64 k ∧ Hid (Below bd w' wr ∧ w'.heap.size + 1 < wr.heap.size
      ∧ (∀ j, j < 3 → wr.cell? ⟨w'.heap.size, j, none⟩ = some (.int .i64 (dg m j))) ∧ (∀ j, j < 3 → wr.cell? ⟨w'.heap.size + 1, j, none⟩ = some (.int .i64 (dg n j)))
      ∧ ∃ f', OwnX be bd f' wr ∧ (∀ j, -(K + 3 * k * 140737488355328) ≤ f' j ∧ f' j ≤ K + 3 * k * 140737488355328) ∧ dv f' 190 = dv f 190 + S * T * (dgs m k * n) * sh * ((2 ^ (24 * a) : Nat) : Int))) (fun i _ => 3 - (intOf i).toNat)
  case atStart => exact ⟨0, by omega, rfl, HBW.out, HSZ.out, HCU.out, HCV.out, f, HXW.out, fun j => by have := Hf.out j; omega, by unfold dgs; rw [show dv (dg m) 0 = 0 from rfl, Int.zero_mul, Int.mul_zero, Int.zero_mul, Int.zero_mul, Int.add_zero]⟩
  case round =>
    obtain ⟨k, hk, rfl, hrest⟩ := hrel
    clear HBW HXW HCU HCV HSZ HXo P1 P2 T1 T2 HSH
    by_cases hlt : k < 3
    · go_wp2_with fail
      go_loopw [17] (fun i wr => ∃ l : Nat, l ≤ 3 ∧ i = .int .i64 l ∧ Hid (Below bd w' wr ∧ w'.heap.size + 1 < wr.heap.size
        ∧ (∀ j, j < 3 → wr.cell? ⟨w'.heap.size, j, none⟩ = some (.int .i64 (dg m j))) ∧ (∀ j, j < 3 → wr.cell? ⟨w'.heap.size + 1, j, none⟩ = some (.int .i64 (dg n j)))
        ∧ ∃ f', OwnX be bd f' wr ∧ (∀ j, -(K + (3 * k + l) * 140737488355328) ≤ f' j ∧ f' j ≤ K + (3 * k + l) * 140737488355328)
          ∧ dv f' 190 = dv f 190 + S * T * (dgs m k * n + dg m k * ((2 ^ (24 * k) : Nat) : Int) * dgs n l) * sh * ((2 ^ (24 * a) : Nat) : Int))) (fun i _ => 3 - (intOf i).toNat)
      case atStart =>
        obtain ⟨h1, h2, h3, h4, f', h5, h6, h7⟩ := hrest.out
        exact ⟨0, by omega, rfl, h1, h2, h3, h4, f', h5, fun j => by have := h6 j; omega, by rw [h7]; unfold dgs; rw [show dv (dg n) 0 = 0 from rfl, Int.mul_zero, Int.add_zero]⟩
      case round =>
        obtain ⟨l, hl, rfl, hin⟩ := hrel
        by_cases hll : l < 3
        · obtain ⟨h1, h2, h3, h4, f', h5, h6, h7⟩ := hin.out
          have gu := h3 k hlt
          have gv := h4 l hll
          have gh := h5.head
          obtain ⟨q, hq⟩ : ∃ q : Nat, q = k + l + a := ⟨_, rfl⟩
          have gq := h5.cell q (by omega)
          have gr := h5.cell (q + 1) (by omega)
          have sq := h5.soft q (by omega)
          have sr := h5.soft (q + 1) (by omega)
          generalize hx : dg m k = x at gu
          generalize hy : dg n l = y at gv
          generalize hfq : f' q = fq at gq
          generalize hfr : f' (q + 1) = fr at gr
          have H1 : Hid _ := h1
          have H2 : Hid _ := h2
          have H3 : Hid _ := h3
          have H4 : Hid _ := h4
          have H5 : Hid _ := h5
          have H6 : Hid _ := h6
          have H7 : Hid _ := h7
          have HXX : Hid _ := hx
          have HYY : Hid _ := hy
          have HQ : Hid _ := hfq
          have HR : Hid _ := hfr
          clear h1 h2 h3 h4 h5 h6 h7 hx hy hfq hfr hin hrest
          go_wp2_with fail
          go_quiet (fail)
          go_wp2_with fail
          have hp0 : 0 ≤ x * y ∧ x * y ≤ 281474976710656 := by
            rw [← HXX.out, ← HYY.out]; exact dg_mul m n k l Hm.out Hn.out
          have hpw : wrap64 (x * y) = x * y := by unfold wrap64; omega
          rw [hpw]
          obtain ⟨p, hp⟩ : ∃ p, p = x * y := ⟨_, rfl⟩
          rw [← hp] at hp0 ⊢
          obtain ⟨p0, p1⟩ := hp0
          have HP : Hid (p = x * y) := hp
          clear hp hpw
          have hqc : (↑k + ↑l + ↑a : Int) = (q : Int) := by omega
          rw [hqc]
          have HQQ : Hid (q = k + l + a) := hq
          have i1 : (0 : Int) ≤ (q : Int) := by omega
          have i2 : (q : Int) < 189 := by omega
          clear hq hqc ha
          go_region
          go_wp2_with fail
          have hST : S * T = 1 ∨ S * T = -1 := by
            rcases HS.out with h | h <;> rcases HT.out with h' | h' <;> rw [h, h'] <;> omega
          have e1' := upd_val (S * T) p sh fq hST hs0 hs1 (by have := (H6.out q); rw [HQ.out] at this; omega) (by have := (H6.out q); rw [HQ.out] at this; omega)
          have e2' := upd_val2 (S * T) p sh fr hST p0 p1 hs0 hs1 (by have := (H6.out (q + 1)); rw [HR.out] at this; omega) (by have := (H6.out (q + 1)); rw [HR.out] at this; omega)
          obtain ⟨v1, hv1⟩ : ∃ v1, v1 = wrap64 (fq + wrap64 (wrap64 (wrap64 (S * T) * (p % 16777216)) * sh)) := ⟨_, rfl⟩
          rw [← hv1] at e1' ⊢
          clear hv1
          have X1 : OwnX be bd (upd f' q (S * T * (p % 16777216) * sh)) ((wr.drewN (nq + 1)).setCell ⟨bd, q, none⟩ (.int .i64 v1)) :=
            (H5.out.drewN (nq + 1)).set q (by omega) _ v1 (by rw [e1', HQ.out])
          have B1 : Below bd w' ((wr.drewN (nq + 1)).setCell ⟨bd, q, none⟩ (.int .i64 v1)) := (bl_drewN' H1.out (nq + 1)).setCell (p := ⟨bd, q, none⟩) (Nat.le_refl _) _
          have S1 : w'.heap.size + 1 < ((wr.drewN (nq + 1)).setCell ⟨bd, q, none⟩ (.int .i64 v1)).heap.size := by have := H2.out; simpa using this
          have U1 : ∀ j, j < 3 → ((wr.drewN (nq + 1)).setCell ⟨bd, q, none⟩ (.int .i64 v1)).cell? ⟨w'.heap.size, j, none⟩ = some (.int .i64 (dg m j)) := by
            intro j hj
            rw [World.cell?_setCell_other (h := by intro e; injection e with e; omega)]
            exact H3.out j hj
          have V1 : ∀ j, j < 3 → ((wr.drewN (nq + 1)).setCell ⟨bd, q, none⟩ (.int .i64 v1)).cell? ⟨w'.heap.size + 1, j, none⟩ = some (.int .i64 (dg n j)) := by
            intro j hj
            rw [World.cell?_setCell_other (h := by intro e; injection e with e; omega)]
            exact H4.out j hj
          clear gu gv gh gq gr sq sr H1 H2 H3 H4 H5
          generalize (wr.drewN (nq + 1)).setCell ⟨bd, q, none⟩ (.int .i64 v1) = wz at *
          have gh := X1.head
          have gr := X1.cell (q + 1) (by omega)
          have sr := X1.soft (q + 1) (by omega)
          have er : upd f' q (S * T * (p % 16777216) * sh) (q + 1) = fr := by unfold upd; rw [if_neg (by omega)]; exact HR.out
          rw [er] at gr
          have HX1 : Hid _ := X1
          have HB1 : Hid _ := B1
          have HS1 : Hid _ := S1
          have HU1 : Hid _ := U1
          have HV1 : Hid _ := V1
          have HE2 : Hid _ := e2'
          have HER : Hid _ := er
          have HST : Hid _ := hST
          clear X1 B1 S1 U1 V1 e1' e2' er hST
          go_region
          go_wp2_with fail
          go_roundw
          case rel =>
            have c2 := st_bd (S * T) (p / 16777216) sh HST.out (by omega) (by omega) hs0 hs1
            have c1 := st_bd (S * T) (p % 16777216) sh HST.out (by omega) (by omega) hs0 hs1
            refine ⟨l + 1, by omega, by go_num, (HB1.out.setCell (p := ⟨bd, q + 1, none⟩) (Nat.le_refl _) _).drew, by have := HS1.out; simpa using this, fun j hj => ?_, fun j hj => ?_,
              upd (upd f' q (S * T * (p % 16777216) * sh)) (q + 1) (S * T * (p / 16777216) * sh), (HX1.out.set (q + 1) (by omega) _ _ (by rw [HE2.out, HER.out])).drewN 1, fun j => ?_, ?_⟩
            · show (wz.setCell ⟨bd, q + 1, none⟩ _).cell? _ = _
              rw [World.cell?_setCell_other (h := by intro e; injection e with e; omega)]
              exact HU1.out j hj
            · show (wz.setCell ⟨bd, q + 1, none⟩ _).cell? _ = _
              rw [World.cell?_setCell_other (h := by intro e; injection e with e; omega)]
              exact HV1.out j hj
            · have := upd2_bd (q := q) H6.out c1 c2 j
              omega
            · rw [dgs_succ, HYY.out]
              exact dv_more f f' k l a q 190 (S * T) sh (dgs m k * n) x y p HQQ.out (by omega) HP.out (dgs n l) (by have := H7.out; rwa [HXX.out] at this)
          case measure => simp [intOf]; omega
        · have hl3 : l = 3 := by omega
          subst hl3
          clear hrest
          go_wp2_with fail
          go_roundw
          case rel =>
            obtain ⟨h1, h2, h3, h4, f', h5, h6, h7⟩ := hin.out
            refine ⟨k + 1, by omega, by go_num, h1, h2, h3, h4, f', h5, fun j => by have := h6 j; omega, ?_⟩
            rw [h7, dgs_succ m k, dgs_three n]
            rw [Int.add_mul (dgs m k)]
          case measure => simp [intOf]; omega
    · have hk3 : k = 3 := by omega
      subst hk3
      go_wp2_with fail
      go_end0
      obtain ⟨h1, h2, h3, h4, f', h5, h6, h7⟩ := hrest.out
      refine ⟨rfl, h1, f', h5, fun j => by have := h6 j; omega, ?_⟩
      rw [h7, dgs_three]
end Go.Proofs.YtacnclofbnafiabGreatDoor
