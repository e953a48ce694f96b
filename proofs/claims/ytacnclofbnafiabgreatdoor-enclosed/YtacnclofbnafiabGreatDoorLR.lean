import Derived.Test.YtacnclofbnafiabGreatDoorAA
import Derived.Test.YtacnclofbnafiabGreatDoorL1
import Derived.Deep.Slices
import Derived.Test.YtacnclofbnafiabGreatDoorRows
import Derived.ProofKit
import Derived.OpenShut
import Derived.ChangeSame
import Derived.ChangeVars
import Derived.JoinedOf
import Derived.RowKit
import Derived.RowKitTokens
import Derived.LaidLaws
import Derived.LaidHandle
import Derived.Stop.Joined
import Derived.Carry
import Derived.JoinedAt
import Derived.ChangeMaps5
namespace Go.Proofs.YtacnclofbnafiabGreatDoor
open Go.RowKit Fl

open Go.WideShapes Go.Deep in
theorem open_ints {H : Type} {enc : TypeId × Value → H} {P : Program} {w : World} {base : Nat} {held : Bool} {t e : TypeId} {v : Value} {d : DataW H} {ps : List MemPlace} {r : Reach} {b0 : Nat} (ht : P.underlying t = some (.slice e)) (he : P.underlying e = some (.int .i64)) (hc : P.cellsOf e = 1)
    (hval : Value.okWide P w r b0 t v) (hd : DataW.Trod enc P w base (fun _ => true) held t v d ps) : ∃ ks, LInt w v ks ∧ ks.length ≤ 9223372036854775807 := by
  obtain ⟨a0, len0, cap0, rfl⟩ := okWide_slice ht hval
  obtain ⟨fuel, hf⟩ := hd
  rcases open_slice1 ht hc hf with ⟨h0, _⟩ | ⟨a, len, cap, m, n, V, D, Pl, h0, hb, hl, hm, hmm, _, hx⟩
  · simp [Value.cells] at h0
    obtain ⟨rfl, rfl, rfl⟩ := h0
    exact ⟨[], ⟨⟨none, 0, rfl⟩, fun j x h => by simp at h⟩, by simp⟩
  · simp [Value.cells] at h0
    obtain ⟨rfl, rfl, rfl⟩ := h0
    simp at hmm
    have each : ∀ i, i < len0 → ∃ x, V i = .int .i64 x := by
      intro i hi
      have := (hx i (by omega)).2
      cases n with
      | zero => simp [DataW.trod] at this
      | succ n =>
        simp only [DataW.trod, he] at this
        cases hv : V i with
        | int k x =>
          rw [hv] at this
          by_cases hk : k = .i64
          · subst hk; exact ⟨x, rfl⟩
          · simp [hk] at this
        | _ => rw [hv] at this; simp at this
    refine ⟨(List.range len0).map fun i => match V i with | .int _ x => x | _ => 0, ⟨⟨some a, cap0, by simp⟩, fun i x hi => ?_⟩, by unfold maxLen at hm; simp; omega⟩
    have hil : i < len0 := by
      rcases Nat.lt_or_ge i len0 with g | g
      · exact g
      · rw [List.getElem?_eq_none (by simpa using g)] at hi; cases hi
    have hp := (hx 0 (by omega)).1
    obtain ⟨b, off, spot⟩ := a
    have hspot : spot = none := by simpa [Addr.add] using World.cell?_spot hp
    subst hspot
    obtain ⟨y, e1⟩ := each i hil
    have hci := (hx i (by omega)).1
    simp [hil, e1] at hi
    subst hi
    refine ⟨b, off, cap0, by simp, ?_, ?_⟩
    · rcases Nat.lt_or_ge b w.heap.size with g | g
      · exact g
      · exfalso
        have e : w.heap[b]? = none := Array.getElem?_eq_none g
        rw [add_plain] at hci
        unfold World.cell? at hci
        simp [e] at hci
    · rw [add_plain] at hci
      rw [hci, e1]
end Go.Proofs.YtacnclofbnafiabGreatDoor

namespace Go.Proofs.YtacnclofbnafiabGreatDoor
open Go.ChangeShapes Go.WideShapes Go.RowKit

theorem own_knob : ownKnob Tryz.prog.godebug = none := by kernel_rfl
theorem laid_out : laidOutB Tryz.prog = true := by kernel_rfl
theorem rd_list : Tryz.prog.readableRec 22 = true := by kernel_rfl
theorem row_list : 22 < Tryz.prog.types.size := of_decide_eq_true (by kernel_rfl)
theorem rd_ints : Tryz.prog.readableRec 23 = true := by kernel_rfl
theorem row_ints : 23 < Tryz.prog.types.size := of_decide_eq_true (by kernel_rfl)
theorem cells_f : Tryz.prog.cellsOf 35 = 1 := by kernel_rfl
theorem cells_i : Tryz.prog.cellsOf 3 = 1 := by kernel_rfl
theorem et_at : Tryz.prog.globalNamed "errors.errorType" = some 0 := by kernel_rfl
theorem rt_at : (Tryz.prog.cutTypes.find? (·.1 == "internal/reflectlite.rtype")).map (·.2) = some 169 := by kernel_rfl
theorem one_row : ((List.range 250).filter fun t => Tryz.prog.rowNamed t [101, 114, 114, 111, 114]) = [46] := by kernel_rfl
theorem types_size : Tryz.prog.types.size = 250 := by kernel_rfl
/-- What the condition gives a walk: the variable's one cell. -/
theorem handle_of_laid {W : World} (h : laidMetH Tryz.prog [("errors.errorType", Rows.laid_errors_errorType)] W) : W.cell? ⟨0, 0, none⟩ = some (.iface 169 (.agg #[.pointer (some ⟨2, 46, none⟩)])) := by
  have h' : laidMet Tryz.prog [] W ∧ handlesMet Tryz.prog [("errors.errorType", Rows.laid_errors_errorType)] W := h
  obtain ⟨name, u, ty, e1, e2, e3, e4, e5⟩ := h'.2 _ (List.mem_singleton.2 rfl)
  have en : name = [101, 114, 114, 111, 114] := (Option.some.inj e1).symm
  subst en
  obtain rfl := Option.some.inj (rt_at.symm.trans e2)
  have hm : ty ∈ (List.range 250).filter fun t => Tryz.prog.rowNamed t [101, 114, 114, 111, 114] := List.mem_filter.2 ⟨List.mem_range.2 (by rw [← types_size]; exact e3), e4⟩
  rw [one_row] at hm
  obtain rfl := List.mem_singleton.1 hm
  have hh : typeHandle Tryz.prog 46 = .pointer (some ⟨2, 46, none⟩) := by kernel_rfl
  rw [hh] at e5
  simpa using World.var?_cell et_at e5 0
end Go.Proofs.YtacnclofbnafiabGreatDoor
