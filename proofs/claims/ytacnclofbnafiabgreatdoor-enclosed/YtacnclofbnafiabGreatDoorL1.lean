import Derived.Test.YtacnclofbnafiabGreatDoorWB
import Derived.Below
import Derived.Deep.Slices
namespace Go.Proofs.YtacnclofbnafiabGreatDoor
open Go.RowKit Fl

-- a slice of float64s that lies in w, as a function: f i is its i-th (0 behind its end)
def Lst (w : World) (v : Value) (f : Nat → Nat) : Prop :=
  ∃ (a : Option Addr) (len cap : Nat), v = .slice a len cap ∧ len ≤ 9223372036854775807 ∧ (∀ i, i < len → ∃ b off, a = some ⟨b, off, none⟩ ∧ b < w.heap.size ∧ w.cell? ⟨b, off + i, none⟩ = some (.float .f64 (f i))) ∧ (∀ i, len ≤ i → f i = 0) ∧ ∀ i, f i < 18446744073709551616
theorem Lst.lt {w : World} {v : Value} {f : Nat → Nat} (h : Lst w v f) (i : Nat) : f i < 18446744073709551616 := by
  obtain ⟨a, len, cap, _, _, _, _, h⟩ := h
  exact h i
theorem Lst.below {w w' : World} {v : Value} {f : Nat → Nat} (h : Lst w v f) (hb : Below w.heap.size w w') : Lst w' v f := by
  obtain ⟨a, len, cap, h1, h2, h3, h4, h5⟩ := h
  refine ⟨a, len, cap, h1, h2, fun i hi => ?_, h4, h5⟩
  obtain ⟨b, off, e1, e2, e3⟩ := h3 i hi
  refine ⟨b, off, e1, Nat.lt_of_lt_of_le e2 hb.size, ?_⟩
  rw [hb.cell e2, e3]
theorem at_in (b off len cap k : Nat) (x : Nat) (w : World) (hk : k < len) (_hl : len ≤ 9223372036854775807) (hc : w.cell? ⟨b, off + k, none⟩ = some (.float .f64 x)) :
    Calls Tryz.prog 20 #[.slice (some ⟨b, off, none⟩) len cap, .int .i64 k] w fun e w' => e = .returned (.float .f64 x) ∧ w' = w := by
  go_enter Tryz.func20, Tryz.ntmps20
  go_wp2
  go_ret
  exact ⟨rfl, rfl⟩
theorem at_out (a : Option Addr) (len cap k : Nat) (w : World) (hk : len ≤ k) (_hk' : k ≤ 4611686018427387904) :
    Calls Tryz.prog 20 #[.slice a len cap, .int .i64 k] w fun e w' => e = .returned (.float .f64 0) ∧ w' = w := by
  have hk2 : ¬ ((k : Int) < (len : Int)) := by omega
  go_enter Tryz.func20, Tryz.ntmps20
  go_wp2
  go_ret
  exact ⟨rfl, rfl⟩
theorem at_any {w : World} {v : Value} {f : Nat → Nat} (h : Lst w v f) (k : Nat) (hk : k ≤ 4611686018427387904) :
    Calls Tryz.prog 20 #[v, .int .i64 k] w fun e w' => e = .returned (.float .f64 (f k)) ∧ w' = w := by
  obtain ⟨a, len, cap, rfl, h2, h3, h4, h5⟩ := h
  rcases Nat.lt_or_ge k len with g | g
  · obtain ⟨b, off, rfl, e2, e3⟩ := h3 k g
    exact at_in b off len cap k _ w g h2 e3
  · rw [h4 k g]
    exact at_out a len cap k w g hk

open Go.WideShapes Go.Deep in
theorem open_floats {H : Type} {enc : TypeId × Value → H} {P : Program} {w : World} {base : Nat} {held : Bool} {t e : TypeId} {v : Value} {d : DataW H} {ps : List MemPlace} {r : Reach} {b0 : Nat} (ht : P.underlying t = some (.slice e)) (he : P.underlying e = some (.float .f64)) (hc : P.cellsOf e = 1)
    (hval : Value.okWide P w r b0 t v) (hd : DataW.Trod enc P w base (fun _ => true) held t v d ps) : ∃ f, Lst w v f := by
  obtain ⟨a0, len0, cap0, rfl⟩ := okWide_slice ht hval
  obtain ⟨fuel, hf⟩ := hd
  rcases open_slice1 ht hc hf with ⟨h0, _⟩ | ⟨a, len, cap, m, n, V, D, Pl, h0, hb, hl, hm, hmm, _, hx⟩
  · simp [Value.cells] at h0
    obtain ⟨rfl, rfl, rfl⟩ := h0
    exact ⟨fun _ => 0, none, 0, 0, rfl, by omega, fun i hi => by omega, fun _ _ => rfl, fun _ => by show 0 < 18446744073709551616; omega⟩
  · simp [Value.cells] at h0
    obtain ⟨rfl, rfl, rfl⟩ := h0
    simp at hmm
    have each : ∀ i, i < len0 → ∃ x, V i = .float .f64 x ∧ x < 18446744073709551616 := by
      intro i hi
      have := (hx i (by omega)).2
      cases n with
      | zero => simp [DataW.trod] at this
      | succ n =>
        simp only [DataW.trod, he] at this
        cases hv : V i with
        | float k x =>
          rw [hv] at this
          by_cases hk : k = .f64
          · subst hk
            by_cases hw : (Lit.float .f64 x).wf = true
            · exact ⟨x, rfl, by simpa [Lit.wf] using hw⟩
            · simp [hw] at this
          · simp [hk] at this
        | _ => rw [hv] at this; simp at this
    refine ⟨fun i => if i < len0 then (match V i with | .float _ x => x | _ => 0) else 0, some a, len0, cap0, rfl, ?_, ?_, ?_, ?_⟩
    · unfold maxLen at hm; omega
    · intro i hi
      have hp := (hx 0 (by omega)).1
      obtain ⟨b, off, spot⟩ := a
      have hspot : spot = none := by simpa [Addr.add] using World.cell?_spot hp
      subst hspot
      obtain ⟨x, e1, e2⟩ := each i hi
      have hci := (hx i (by omega)).1
      refine ⟨b, off, rfl, ?_, ?_⟩
      · rcases Nat.lt_or_ge b w.heap.size with g | g
        · exact g
        · exfalso
          have e : w.heap[b]? = none := Array.getElem?_eq_none g
          rw [add_plain] at hci
          unfold World.cell? at hci
          simp [e] at hci
      · rw [add_plain] at hci
        rw [hci]
        simp [hi, e1]
    · intro i hi
      simp [Nat.not_lt.2 hi]
    · intro i
      by_cases hi : i < len0
      · obtain ⟨x, e1, e2⟩ := each i hi
        simp [hi, e1, e2]
      · simp [hi]
end Go.Proofs.YtacnclofbnafiabGreatDoor
