import Derived.Test.YtcfjicfmcmbepabK6
import Derived.Deep.DeepCutAuto
namespace Go.Proofs.Ytcfjicfmcmbepab
open Go.RowKit Fl

theorem bnew {u w' : World} {a b : Value} {t : TypeId} (hb : Below (u.alloc (.cells #[a, b] t)).heap.size (u.alloc (.cells #[a, b] t)) w') :
    w'.cell? ⟨u.heap.size, 0, none⟩ = some a ∧ w'.cell? ⟨u.heap.size, 1, none⟩ = some b ∧ w'.frozen? ⟨u.heap.size, 0, none⟩ = false ∧ w'.frozen? ⟨u.heap.size, 1, none⟩ = false :=
  ⟨bkeep hb (by simp) (by simp), bkeep hb (by simp) (by simp), bfroz hb (by simp) (by simp), bfroz hb (by simp) (by simp)⟩
theorem bnewD {u w' : World} {a b : Value} {t : TypeId} (hb : Below (u.alloc (.cells #[a, b] t)).drew.heap.size (u.alloc (.cells #[a, b] t)).drew w') :
    w'.cell? ⟨u.heap.size, 0, none⟩ = some a ∧ w'.cell? ⟨u.heap.size, 1, none⟩ = some b ∧ w'.frozen? ⟨u.heap.size, 0, none⟩ = false ∧ w'.frozen? ⟨u.heap.size, 1, none⟩ = false :=
  ⟨bkeep hb (by simp) (by simp), bkeep hb (by simp) (by simp), bfroz hb (by simp) (by simp), bfroz hb (by simp) (by simp)⟩
theorem bold {u w' : World} {a b : Value} {n m : Nat} (hb : Below u.heap.size u w') (h : u.cell? ⟨n, 0, none⟩ = some a ∧ u.cell? ⟨m, 1, none⟩ = some b ∧ u.frozen? ⟨n, 0, none⟩ = false ∧ u.frozen? ⟨m, 1, none⟩ = false) :
    w'.cell? ⟨n, 0, none⟩ = some a ∧ w'.cell? ⟨m, 1, none⟩ = some b ∧ w'.frozen? ⟨n, 0, none⟩ = false ∧ w'.frozen? ⟨m, 1, none⟩ = false :=
  ⟨bkeep2 hb h.1, bkeep2 hb h.2.1, bfroz2 hb h.1 h.2.2.1, bfroz2 hb h.2.1 h.2.2.2⟩

end Go.Proofs.Ytcfjicfmcmbepab
