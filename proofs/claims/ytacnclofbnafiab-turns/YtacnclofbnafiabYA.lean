import Derived.Test.YtacnclofbnafiabQB
namespace Go.Proofs.Ytacnclofbnafiab
open Go.RowKit Fl

end Go.Proofs.Ytacnclofbnafiab

namespace Go.Proofs.Ytacnclofbnafiab
open Go.RowKit Fl

theorem Fin.of {t : Int} (h0 : 0 ≤ t) (h1 : t < INF) : Fin t := ⟨by omega, h1⟩
/-- The reach and the radius, put together. -/
theorem Ard.rad {F : Ops} {k l m n u v c t : Int} (h : Ard F k l m n u v c) (pt : Pl t) (t0 : 0 ≤ t) (ht : F.aU c t < INF) : c < INF ∧ t < INF ∧ 0 ≤ Vk c ∧ 0 ≤ Vk t ∧ Vk c + Vk t ≤ Vk (F.aU c t) ∧ 0 ≤ F.aU c t := by
  obtain ⟨p1, p2⟩ := h.pl
  obtain ⟨pc, c0, _⟩ := h.len.ge p1 p2
  have hI := INF_pos
  obtain ⟨q1, q2, q3, _⟩ := F.aU_fin pc pt (by omega) (by omega) ht
  exact ⟨q1, q2, Vk_nn c0, Vk_nn t0, q3, F.aU_nn pc pt c0 t0⟩
end Go.Proofs.Ytacnclofbnafiab
