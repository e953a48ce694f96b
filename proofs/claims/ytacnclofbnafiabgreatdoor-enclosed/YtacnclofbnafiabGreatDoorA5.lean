import Derived.Test.YtacnclofbnafiabGreatDoorAA
namespace Go.Proofs.YtacnclofbnafiabGreatDoor
open Go.RowKit Fl

/-- Is the input of a byte there? -/
def thr (c nb nd : Int) : Bool := if 97 ≤ c then decide (c - 97 < nd) else decide (c - 48 < nb)
/-- The reference's verdict of a program from its byte i on: the error, its place, where the policy is asked. -/
def chk (nb nd : Int) (ks : List Int) : List Int → Int → Int → List Int → Int × Int × List Int
  | [], i, h, aa => if h = 1 then (0, 0, aa) else (4, i, aa)
  | c :: cs, i, h, aa =>
    if rtk c < 0 then (2, i, aa)
    else if rtk c = 0 then (if thr c nb nd = true then chk nb nd ks cs (i + 1) (h + 1) aa else (3, i, aa))
    else if h < rtk c then (4, i, aa)
    else if lgd ks aa.length = true then chk nb nd ks cs (i + 1) (h - rtk c + 1) (aa ++ [i])
    else (5, i, aa ++ [i])
/-- The reference under way. -/
structure CI (w : World) (aa : List Int) (er at_ : Int) (va : Value) (wr : World) : Prop where
  e0 : wr.cell? ⟨w.heap.size + 1, 0, none⟩ = some (.int .i64 er)
  e1 : wr.cell? ⟨w.heap.size + 1, 1, none⟩ = some (.int .i64 at_)
  e2 : wr.cell? ⟨w.heap.size + 1, 2, none⟩ = some va
  f0 : wr.frozen? ⟨w.heap.size + 1, 0, none⟩ = false
  f1 : wr.frozen? ⟨w.heap.size + 1, 1, none⟩ = false
  f2 : wr.frozen? ⟨w.heap.size + 1, 2, none⟩ = false
  r0 : ∃ v, wr.cell? ⟨w.heap.size, 0, none⟩ = some v
  r1 : ∃ v, wr.cell? ⟨w.heap.size, 1, none⟩ = some v
  r2 : ∃ v, wr.cell? ⟨w.heap.size, 2, none⟩ = some v
  g0 : wr.frozen? ⟨w.heap.size, 0, none⟩ = false
  g1 : wr.frozen? ⟨w.heap.size, 1, none⟩ = false
  g2 : wr.frozen? ⟨w.heap.size, 2, none⟩ = false
  ow : wr.ownsRow (w.heap.size + 2) 3 1 va aa.length (kvs aa)
  bl : Below w.heap.size w wr
  lt : w.heap.size + 2 ≤ wr.heap.size
theorem CI.sets {w wr : World} {aa : List Int} {er at_ : Int} {va : Value} (h : CI w aa er at_ va wr) {er' at' : Int} {j : Nat} {x : Value} (h0 : (wr.setCell ⟨w.heap.size + 1, j, none⟩ x).cell? ⟨w.heap.size + 1, 0, none⟩ = some (.int .i64 er')) (h1 : (wr.setCell ⟨w.heap.size + 1, j, none⟩ x).cell? ⟨w.heap.size + 1, 1, none⟩ = some (.int .i64 at')) (h2 : (wr.setCell ⟨w.heap.size + 1, j, none⟩ x).cell? ⟨w.heap.size + 1, 2, none⟩ = some va) : CI w aa er' at' va (wr.setCell ⟨w.heap.size + 1, j, none⟩ x) := by
  have ot : ∀ {i : Nat}, (∃ v, wr.cell? ⟨w.heap.size, i, none⟩ = some v) → ∃ v, (wr.setCell ⟨w.heap.size + 1, j, none⟩ x).cell? ⟨w.heap.size, i, none⟩ = some v := fun {i} ⟨v, e⟩ => ⟨v, by rw [World.cell?_setCell_other _ _ _ _ (by simp)]; exact e⟩
  refine ⟨h0, h1, h2, ?_, ?_, ?_, ot h.r0, ot h.r1, ot h.r2, ?_, ?_, ?_, ?_, Below.setCell h.bl (by simp) _, by simp; exact h.lt⟩
  · rw [World.frozen?_setCell]; exact h.f0
  · rw [World.frozen?_setCell]; exact h.f1
  · rw [World.frozen?_setCell]; exact h.f2
  · rw [World.frozen?_setCell]; exact h.g0
  · rw [World.frozen?_setCell]; exact h.g1
  · rw [World.frozen?_setCell]; exact h.g2
  · exact ownsRow_setCell_other h.ow (fun c => by have : w.heap.size + 2 ≤ w.heap.size + 1 := (h.ow.lt _ c).1; omega) _
theorem CI.kp {w wr w1 : World} {aa : List Int} {er at_ : Int} {va : Value} {o : Obj} (h : CI w aa er at_ va wr) (g1 : (wr.alloc o).grownBy w1 va.ownBlock) {b j : Nat} {v : Value} (hb : b < w.heap.size + 2) (e : wr.cell? ⟨b, j, none⟩ = some v) : w1.cell? ⟨b, j, none⟩ = some v := by
  have lt := h.lt
  exact g1.cell (bkeep (bl_alloc (Below.refl _ _)) e (by show b < _; omega)) (fun e => by have := (h.ow.lt _ e.symm).1; simp at this; omega)
theorem CI.kf {w wr w1 : World} {aa : List Int} {er at_ : Int} {va : Value} {o : Obj} (h : CI w aa er at_ va wr) (g1 : (wr.alloc o).grownBy w1 va.ownBlock) {b j : Nat} {v : Value} (hb : b < w.heap.size + 2) (e : wr.cell? ⟨b, j, none⟩ = some v) (f : wr.frozen? ⟨b, j, none⟩ = false) : w1.frozen? ⟨b, j, none⟩ = false := by
  have lt := h.lt
  exact grown_frozen g1 (bkeep (bl_alloc (Below.refl _ _)) e (by show b < _; omega)) (bfroz (bl_alloc (Below.refl _ _)) f (by show b < _; omega)) (fun e => by have := (h.ow.lt _ e.symm).1; simp at this; omega)
/-- What the reference answers, in memory. -/
def Vdt (w : World) (r : Int × Int × List Int) (e : Ending) (w' : World) : Prop := ∃ va, e = .returned (.agg #[.int .i64 r.1, .int .i64 r.2.1, va]) ∧ w'.ownsRow w.heap.size 3 1 va r.2.2.length (kvs r.2.2) ∧ Below w.heap.size w w'
end Go.Proofs.YtacnclofbnafiabGreatDoor
