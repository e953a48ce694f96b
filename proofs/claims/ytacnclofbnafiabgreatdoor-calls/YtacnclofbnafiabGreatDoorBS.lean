import Derived.Test.YtacnclofbnafiabGreatDoorBZ
import Derived.Test.YtacnclofbnafiabGreatDoorAD
namespace Go.Proofs.YtacnclofbnafiabGreatDoor
open Go.RowKit Fl

/-- A block of four cells that may be written. -/
structure Four (b : Nat) (w : World) : Prop where
  c0 : ∃ v, w.cell? ⟨b, 0, none⟩ = some v ∧ w.frozen? ⟨b, 0, none⟩ = false
  c1 : ∃ v, w.cell? ⟨b, 1, none⟩ = some v ∧ w.frozen? ⟨b, 1, none⟩ = false
  c2 : ∃ v, w.cell? ⟨b, 2, none⟩ = some v ∧ w.frozen? ⟨b, 2, none⟩ = false
  c3 : ∃ v, w.cell? ⟨b, 3, none⟩ = some v ∧ w.frozen? ⟨b, 3, none⟩ = false
theorem Four.below {b : Nat} {w w' : World} (h : Four b w) (hB : Below w.heap.size w w') : Four b w' := by
  have k : ∀ {j : Nat}, (∃ v, w.cell? ⟨b, j, none⟩ = some v ∧ w.frozen? ⟨b, j, none⟩ = false) → ∃ v, w'.cell? ⟨b, j, none⟩ = some v ∧ w'.frozen? ⟨b, j, none⟩ = false := fun ⟨v, h1, h2⟩ => ⟨v, bkeep2 hB h1, bfroz2 hB h1 h2⟩
  exact ⟨k h.c0, k h.c1, k h.c2, k h.c3⟩
theorem bnew4 {u w' : World} {a b c d : Value} {t : TypeId} (hb : Below (u.alloc (.cells #[a, b, c, d] t)).heap.size (u.alloc (.cells #[a, b, c, d] t)) w') :
    w'.cell? ⟨u.heap.size, 0, none⟩ = some a ∧ w'.cell? ⟨u.heap.size, 1, none⟩ = some b ∧ w'.cell? ⟨u.heap.size, 2, none⟩ = some c ∧ w'.cell? ⟨u.heap.size, 3, none⟩ = some d ∧ w'.frozen? ⟨u.heap.size, 0, none⟩ = false ∧ w'.frozen? ⟨u.heap.size, 1, none⟩ = false ∧ w'.frozen? ⟨u.heap.size, 2, none⟩ = false ∧ w'.frozen? ⟨u.heap.size, 3, none⟩ = false :=
  ⟨bkeep hb (by simp) (by simp), bkeep hb (by simp) (by simp), bkeep hb (by simp) (by simp), bkeep hb (by simp) (by simp), bfroz hb (by simp) (by simp), bfroz hb (by simp) (by simp), bfroz hb (by simp) (by simp), bfroz hb (by simp) (by simp)⟩
theorem bnewD4 {u w' : World} {a b c d : Value} {t : TypeId} (hb : Below (u.alloc (.cells #[a, b, c, d] t)).drew.heap.size (u.alloc (.cells #[a, b, c, d] t)).drew w') :
    w'.cell? ⟨u.heap.size, 0, none⟩ = some a ∧ w'.cell? ⟨u.heap.size, 1, none⟩ = some b ∧ w'.cell? ⟨u.heap.size, 2, none⟩ = some c ∧ w'.cell? ⟨u.heap.size, 3, none⟩ = some d ∧ w'.frozen? ⟨u.heap.size, 0, none⟩ = false ∧ w'.frozen? ⟨u.heap.size, 1, none⟩ = false ∧ w'.frozen? ⟨u.heap.size, 2, none⟩ = false ∧ w'.frozen? ⟨u.heap.size, 3, none⟩ = false :=
  ⟨bkeep hb (by simp) (by simp), bkeep hb (by simp) (by simp), bkeep hb (by simp) (by simp), bkeep hb (by simp) (by simp), bfroz hb (by simp) (by simp), bfroz hb (by simp) (by simp), bfroz hb (by simp) (by simp), bfroz hb (by simp) (by simp)⟩
theorem Four.put {b : Nat} {w W : World} (h : Four b w) (v0 v1 v2 v3 : Value) (hW : W = (((w.setCell ⟨b, 0, none⟩ v0).setCell ⟨b, 1, none⟩ v1).setCell ⟨b, 2, none⟩ v2).setCell ⟨b, 3, none⟩ v3) :
    W.cell? ⟨b, 0, none⟩ = some v0 ∧ W.cell? ⟨b, 1, none⟩ = some v1 ∧ W.cell? ⟨b, 2, none⟩ = some v2 ∧ W.cell? ⟨b, 3, none⟩ = some v3 := by
  obtain ⟨⟨x0, h0, _⟩, ⟨x1, h1, _⟩, ⟨x2, h2, _⟩, ⟨x3, h3, _⟩⟩ := h
  have ot : ∀ {w : World} {i j : Nat} {u v : Value}, i ≠ j → w.cell? ⟨b, i, none⟩ = some u → (w.setCell ⟨b, j, none⟩ v).cell? ⟨b, i, none⟩ = some u := fun {w i j u v} c e => by
    rw [World.cell?_setCell_other _ _ _ _ (by simp)]; exact e
  subst hW
  exact ⟨ot (by decide) (ot (by decide) (ot (by decide) (World.cell?_setCell_same _ _ _ h0))), ot (by decide) (ot (by decide) (World.cell?_setCell_same _ _ _ (ot (by decide) h1))), ot (by decide) (World.cell?_setCell_same _ _ _ (ot (by decide) (ot (by decide) h2))), World.cell?_setCell_same _ _ _ (ot (by decide) (ot (by decide) (ot (by decide) h3)))⟩
end Go.Proofs.YtacnclofbnafiabGreatDoor
