import Derived.Test.YtacnclofbnafiabGreatDoorWB
import Derived.Test.YtacnclofbnafiabGreatDoorDA
import Derived.Test.YtacnclofbnafiabGreatDoorFA
import Derived.Deep.RegionHeld3
import Derived.BigQuiet
namespace Go.Proofs.YtacnclofbnafiabGreatDoor
open Go.RowKit Fl

/-- Behind names: 'x >> 63', 'x >> 52' of a uint64; the fraction. -/
def sr63 (x : Int) : Int := x / 9223372036854775808
def sr52 (x : Int) : Int := x / 4503599627370496
def frc (r : Nat) : Nat := r % 4503599627370496
def BB : Int := 4503599627370496
theorem shr63 (x : Int) (yk : IntKind) : Op.shift .shr .u64 x yk 63 = pure (.int .u64 (sr63 x)) := by
  rw [shift_shr .u64 yk x 63 (by decide) (by decide)]; rfl
theorem shr52 (x : Int) (yk : IntKind) : Op.shift .shr .u64 x yk 52 = pure (.int .u64 (sr52 x)) := by
  rw [shift_shr .u64 yk x 52 (by decide) (by decide)]; rfl
attribute [local go_sem ↓] shr63
attribute [local go_sem ↓] shr52
theorem sr63_W (s : Bool) (r : Nat) (hr : r < 9223372036854775808) : (sr63 (W s r : Int) == 1) = s := by
  unfold sr63 W
  cases s
  · have : ((((if false = true then 9223372036854775808 else 0) + r : Nat) : Int)) / 9223372036854775808 = 0 := by simp; omega
    rw [this]; rfl
  · have : ((((if true = true then 9223372036854775808 else 0) + r : Nat) : Int)) / 9223372036854775808 = 1 := by simp; omega
    rw [this]; rfl
theorem sr52_W (s : Bool) (r : Nat) (hr : r < 9223372036854775808) : bits .and .u64 (sr52 (W s r : Int)) 2047 = (fld r : Int) := by
  have h := u64_and_nat (W s r / 4503599627370496) 2047 (by have := W_lt s r hr; omega) (by omega)
  rw [show (2047 : Nat) = 2 ^ 11 - 1 by decide, Nat.and_two_pow_sub_one_eq_mod, show (2 ^ 11 : Nat) = 2048 by decide, field_eq s r hr] at h
  have e : sr52 (W s r : Int) = ((W s r / 4503599627370496 : Nat) : Int) := by unfold sr52; omega
  rw [e]
  unfold fld
  simpa using h
theorem frc_W (s : Bool) (r : Nat) (hr : r < 9223372036854775808) : bits .and .u64 (W s r : Int) 4503599627370495 = (frc r : Int) := by
  have h := u64_and_nat (W s r) 4503599627370495 (W_lt s r hr) (by omega)
  rw [show (4503599627370495 : Nat) = 2 ^ 52 - 1 by decide, Nat.and_two_pow_sub_one_eq_mod, show (2 ^ 52 : Nat) = 4503599627370496 by decide] at h
  rw [show ((2 ^ 52 - 1 : Nat) : Int) = 4503599627370495 by decide] at h
  rw [h]; congr 1
  unfold frc W; cases s <;> simp <;> omega
/-- The sign as a whole number. -/
def sgI (s : Bool) : Int := if s then -1 else 1
theorem parts_any (s : Bool) (r : Nat) (hr : r < INF) (w : World) :
    Calls Tryz.prog 82 #[.float .f64 (W s r)] w fun e w' => e = .returned (.tuple #[.int .i64 (sgI s), .int .i64 (mg r), .int .i64 (pl r)]) ∧ w' = w := by
  have hr' : r < 9223372036854775808 := by rw [INF_eq] at hr; omega
  have h1 := sr63_W s r hr'
  have h2 := sr52_W s r hr'
  have h3 := frc_W s r hr'
  have b1 : fld r ≤ 2046 := by rw [INF_eq] at hr; unfold fld; omega
  have b2 : frc r < 4503599627370496 := by unfold frc; omega
  by_cases h0 : fld r = 0
  · have e1 : mg r = frc r := by unfold mg frc; unfold fld at h0; rw [if_pos (by omega)]; omega
    have e2 : pl r = -1074 := by unfold pl; unfold fld at h0; omega
    rw [h0] at h2
    rw [e1, e2]
    clear h0 hr e1 e2 b1
    generalize frc r = m at *
    cases s
    · go_enter Tryz.func82, Tryz.ntmps82
      go_wp2
      exact bodyPost_ret (v := .tuple #[.int .i64 1, .int .i64 m, .int .i64 (-1074)]) (by simp [results, Tryz.results82, go_sem]) rfl ⟨rfl, rfl⟩
    · go_enter Tryz.func82, Tryz.ntmps82
      go_wp2
      exact bodyPost_ret (v := .tuple #[.int .i64 (-1), .int .i64 m, .int .i64 (-1074)]) (by simp [results, Tryz.results82, go_sem]) rfl ⟨rfl, rfl⟩
  · have e1 : (mg r : Int) = frc r + 4503599627370496 := by unfold mg frc; unfold fld at h0; rw [if_neg (by omega)]; omega
    have e2 : pl r = fld r - 1075 := by unfold pl; unfold fld at h0 ⊢; omega
    rw [e1, e2]
    have h0' : 1 ≤ fld r := by omega
    clear h0 hr e1 e2
    generalize frc r = m at *
    generalize fld r = E at *
    cases s
    · go_enter Tryz.func82, Tryz.ntmps82
      go_wp2
      exact bodyPost_ret (v := .tuple #[.int .i64 1, .int .i64 (m + 4503599627370496), .int .i64 (E - 1075)]) (by simp [results, Tryz.results82, go_sem]) rfl ⟨rfl, rfl⟩
    · go_enter Tryz.func82, Tryz.ntmps82
      go_wp2
      exact bodyPost_ret (v := .tuple #[.int .i64 (-1), .int .i64 (m + 4503599627370496), .int .i64 (E - 1075)]) (by simp [results, Tryz.results82, go_sem]) rfl ⟨rfl, rfl⟩
/-- The three digits. -/
def dg (m : Nat) : Nat → Int := fun k => if k = 0 then ((m % 16777216 : Nat) : Int) else if k = 1 then ((m / 16777216 % 16777216 : Nat) : Int) else ((m / 16777216 / 16777216 : Nat) : Int)
theorem three_any (m : Nat) (hm : m < 9007199254740992) (w : World) :
    Calls Tryz.prog 83 #[.int .i64 m] w
      fun e w' => e = .returned (.slice (some ⟨w.heap.size, 0, none⟩) 3 3) ∧ w' = w.alloc (.cells #[.int .i64 (dg m 0), .int .i64 (dg m 1), .int .i64 (dg m 2)] 3) := by
  go_enter Tryz.func83, Tryz.ntmps83
  go_wp2
  go_ret
  exact ⟨rfl, by simp [dg]⟩

/-- AN EXACT: its struct's block be, its digits' block bd, its digits f. -/
structure OwnX (be bd : Nat) (f : Nat → Int) (w : World) : Prop where
  head : w.cell? ⟨be, 0, none⟩ = some (.slice (some ⟨bd, 0, none⟩) 190 190)
  cell : ∀ j, j < 190 → w.cell? ⟨bd, j, none⟩ = some (.int .i64 (f j))
  soft : ∀ j, j < 190 → w.frozen? ⟨bd, j, none⟩ = false
  lt1 : be < w.heap.size
  lt2 : bd < w.heap.size
  ne : be ≠ bd
theorem OwnX.below {be bd : Nat} {f : Nat → Int} {w w' : World} (h : OwnX be bd f w) (hb : Below w.heap.size w w') : OwnX be bd f w' := by
  have hs := hb.size
  refine ⟨?_, fun j hj => ?_, fun j hj => ?_, by have := h.lt1; omega, by have := h.lt2; omega, h.ne⟩
  · rw [hb.cell (p := ⟨be, 0, none⟩) h.lt1]; exact h.head
  · rw [hb.cell (p := ⟨bd, j, none⟩) h.lt2]; exact h.cell j hj
  · rw [hb.frozen (p := ⟨bd, j, none⟩) h.lt2]; exact h.soft j hj
theorem OwnX.drewN {be bd : Nat} {f : Nat → Int} {w : World} (h : OwnX be bd f w) (n : Nat) : OwnX be bd f (w.drewN n) :=
  ⟨h.head, h.cell, h.soft, h.lt1, h.lt2, h.ne⟩
theorem OwnX.set {be bd : Nat} {f : Nat → Int} {w : World} (h : OwnX be bd f w) (q : Nat) (hq : q < 190) (d v : Int) (hv : v = f q + d) : OwnX be bd (upd f q d) (w.setCell ⟨bd, q, none⟩ (.int .i64 v)) := by
  refine ⟨?_, fun j hj => ?_, fun j hj => ?_, by simpa using h.lt1, by simpa using h.lt2, h.ne⟩
  · rw [World.cell?_setCell_other (h := by intro e; injection e with e; exact h.ne e.symm)]; exact h.head
  · by_cases e : j = q
    · subst e
      rw [World.cell?_setCell_same (h := h.cell j hj)]
      unfold upd; rw [if_pos rfl, hv]
    · rw [World.cell?_setCell_other (h := by intro e'; injection e' with e1 e2; exact e e2.symm), h.cell j hj]
      unfold upd; rw [if_neg e]
  · rw [World.frozen?_setCell]; exact h.soft j hj

theorem cell_new (w : World) (cs : Array Value) (t : TypeId) (j : Nat) : (w.alloc (.cells cs t)).cell? ⟨w.heap.size, j, none⟩ = cs[j]? := by
  have e : (w.alloc (.cells cs t)).heap[w.heap.size]? = some (.cells cs t) := by
    show (w.heap.push (.cells cs t))[w.heap.size]? = _
    simp
  unfold World.cell?
  rw [e]
  simp
theorem soft_new (w : World) (cs : Array Value) (t : TypeId) (j : Nat) : (w.alloc (.cells cs t)).frozen? ⟨w.heap.size, j, none⟩ = false := by
  have e : (w.alloc (.cells cs t)).heap[w.heap.size]? = some (.cells cs t) := by
    show (w.heap.push (.cells cs t))[w.heap.size]? = _
    simp
  unfold World.frozen?
  rw [e]
  simp
theorem info3 : (Tryz.prog.info? 3).map (fun i => (i.zero, i.size, i.bytes)) = some (some (.int .i64 0), 1, 8) := by kernel_rfl
@[go_sem] theorem buildX (p : Option Addr) (l c : Nat) (w : World) : (Instr.build 152 #[(0, .slice p l c)]).run Tryz.prog w = .ok (.agg #[.slice p l c]) w := run_build w 152 _ _ (by kernel_rfl)
theorem nought_any (w : World) :
    Calls Tryz.prog 46 #[] w
      fun e w' => e = .returned (.pointer (some ⟨w.heap.size + 1, 0, none⟩)) ∧ OwnX (w.heap.size + 1) w.heap.size (fun _ => 0) w' ∧ Below w.heap.size w w' := by
  obtain ⟨i0, hi, hz0, hz1, hz2⟩ := info_parts info3
  have hmk : ∀ u : World, (Instr.makeSlice 23 (.int .i64 190) (.int .i64 190)).run Tryz.prog u =
      .ok (.slice (some ⟨u.heap.size, 0, none⟩) 190 190) (u.alloc (.cells (madeCells #[.int .i64 0] 190) 3)) := fun u => by
    have h := run_make (P := Tryz.prog) u 23 3 i0 (.int .i64 0) Tryz.underlying23 hi hz0 .i64 .i64 190 190 (by omega) (Int.le_refl _) (by rw [hz2]; omega) (by omega)
    simpa [hz1, Value.cells] using h
  obtain ⟨cs, hcs⟩ : ∃ cs, cs = madeCells #[.int .i64 0] 190 := ⟨_, rfl⟩
  rw [← hcs] at hmk
  have hc : ∀ j, j < 190 → cs[j]? = some (.int .i64 0) := by
    intro j hj
    rw [hcs]; unfold madeCells
    simp [hj, Nat.mod_one]
  clear hcs
  go_enter Tryz.func46, Tryz.ntmps46
  go_wp2
  go_ret
  have b1 : Below (w.heap.size + 1) (w.alloc (.cells cs 3)) ((w.alloc (.cells cs 3)).alloc (.cells #[.slice (some ⟨w.heap.size, 0, none⟩) 190 190] 152)) := (Below.refl _ _).alloc (by simp) _
  have hsz : (w.alloc (.cells cs 3)).heap.size = w.heap.size + 1 := by simp
  refine ⟨rfl, ⟨?_, fun j hj => ?_, fun j hj => ?_, by simp, by simp; omega, by omega⟩, ((Below.refl _ _).alloc (Nat.le_refl _) _).alloc (by simp) _⟩
  · have := cell_new (w.alloc (.cells cs 3)) #[.slice (some ⟨w.heap.size, 0, none⟩) 190 190] 152 0
    rw [hsz] at this
    rw [this]; rfl
  · rw [b1.cell (p := ⟨w.heap.size, j, none⟩) (Nat.lt_succ_self _), cell_new]; exact hc j hj
  · rw [b1.frozen (p := ⟨w.heap.size, j, none⟩) (Nat.lt_succ_self _), soft_new]

-- the sign
set_option maxRecDepth 20000 in
set_option maxHeartbeats 400000 in
theorem sign_any (be bd : Nat) (f : Nat → Int) (w : World) (hX : OwnX be bd f w) (hf : ∀ j, -1152921504606846976 ≤ f j ∧ f j ≤ 1152921504606846976) (hb : dv f 190 < ((2 ^ (24 * 190) : Nat) : Int)) :
    Calls Tryz.prog 48 #[.pointer (some ⟨be, 0, none⟩)] w fun e w' => e = .returned (.int .i64 (dv f 190).sign) ∧ w' = w := by
  have hh := hX.head
  have HC : Hid (∀ j, j < 190 → w.cell? ⟨bd, j, none⟩ = some (.int .i64 (f j))) := hX.cell
  have HB : Hid (dv f 190 < ((2 ^ (24 * 190) : Nat) : Int)) := hb
  clear hb hX
  go_enter Tryz.func48, Tryz.ntmps48
  go_wp2
  go_loop [3, 4, 5] (fun c sg i => ∃ (k : Nat) (cv sv : Int), k ≤ 190 ∧ i = .int .i64 k ∧ c = .int .i64 cv ∧ sg = .int .i64 sv ∧ Hid (-1099511627776 ≤ cv ∧ cv ≤ 1099511627776) ∧ Hid (SignInv f k cv sv)) (fun _ _ i => 190 - (intOf i).toNat)
  case atStart => exact ⟨0, 0, 0, by omega, rfl, rfl, rfl, ⟨by omega, by omega⟩, SignInv.zero f⟩
  case round =>
    obtain ⟨k, cv, sv, hk, rfl, rfl, rfl, hcc, hI⟩ := hrel
    obtain ⟨hc1, hc2⟩ := hcc.out
    by_cases hlt : k < 190
    · have gk := HC.out k hlt
      have bk := hf k
      have hN := hI.out.next
      have hd := go_div (f k + cv)
      generalize f k = x at *
      obtain ⟨b1, b2⟩ := bk
      have HN : Hid (SignInv f (k + 1) ((x + cv) / 16777216) (if (x + cv) % 16777216 = 0 then sv else 1)) := hN
      obtain ⟨a, ha⟩ : ∃ a, (x + cv).tmod 16777216 = a := ⟨_, rfl⟩
      obtain ⟨b, hb⟩ : ∃ b, (x + cv).tdiv 16777216 = b := ⟨_, rfl⟩
      rw [ha, hb] at hd
      clear hN hI hf
      by_cases hr : a < 0
      · obtain ⟨d1, d2⟩ := hd.1 hr
        have a1 : -16777216 ≤ a := by omega
        have p1 : -1000000000000 ≤ b := by omega
        have p2 : b ≤ 1000000000000 := by omega
        have D1 : Hid (a + 16777216 = (x + cv) % 16777216) := d1
        have D2 : Hid (b - 1 = (x + cv) / 16777216) := d2
        clear hd d1 d2
        by_cases hz : a + 16777216 = 0
        · have hz' : a = -16777216 := by omega
          subst hz'
          go_wp2
          go_round
          case rel => exact ⟨k + 1, b - 1, sv, by omega, by go_num, rfl, rfl, ⟨by omega, by omega⟩, by
            have := HN.out; rw [← D2.out, ← D1.out, if_pos (by omega)] at this; exact this⟩
          case measure => simp [intOf]; omega
        · go_wp2
          go_round
          case rel => exact ⟨k + 1, b - 1, 1, by omega, by go_num, rfl, rfl, ⟨by omega, by omega⟩, by
            have := HN.out; rw [← D2.out, ← D1.out, if_neg hz] at this; exact this⟩
          case measure => simp [intOf]; omega
      · obtain ⟨d1, d2⟩ := hd.2 hr
        have a1 : a < 16777216 := by omega
        have p1 : -1000000000000 ≤ b := by omega
        have p2 : b ≤ 1000000000000 := by omega
        have D1 : Hid (a = (x + cv) % 16777216) := d1
        have D2 : Hid (b = (x + cv) / 16777216) := d2
        clear hd d1 d2
        by_cases hz : a = 0
        · have HZ : Hid (a = 0) := hz
          have hz' : (a != 0) = false := by simp [hz]
          clear hz
          go_wp2
          go_round
          case rel => exact ⟨k + 1, b, sv, by omega, by go_num, rfl, rfl, ⟨by omega, by omega⟩, by
            have := HN.out; rw [← D2.out, ← D1.out, if_pos HZ.out] at this; exact this⟩
          case measure => simp [intOf]; omega
        · go_wp2
          go_round
          case rel => exact ⟨k + 1, b, 1, by omega, by go_num, rfl, rfl, ⟨by omega, by omega⟩, by
            have := HN.out; rw [← D2.out, ← D1.out, if_neg hz] at this; exact this⟩
          case measure => simp [intOf]; omega
    · have hk' : k = 190 := by omega
      subst hk'
      have HS : Hid ((if cv < 0 then -1 else sv) = (dv f 190).sign) := hI.out.done HB.out
      clear hI HB hf
      by_cases hneg : cv < 0
      · have HS' : Hid (-1 = (dv f 190).sign) := by have := HS.out; rwa [if_pos hneg] at this
        go_wp2
        go_ret
        exact ⟨ret_int HS'.out, rfl⟩
      · have HS' : Hid (sv = (dv f 190).sign) := by have := HS.out; rwa [if_neg hneg] at this
        go_wp2
        go_ret
        exact ⟨ret_int HS'.out, rfl⟩
end Go.Proofs.YtacnclofbnafiabGreatDoor
