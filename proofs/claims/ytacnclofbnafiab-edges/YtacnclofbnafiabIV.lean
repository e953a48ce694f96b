import Derived.Test.YtacnclofbnafiabM1
import Derived.Test.YtacnclofbnafiabK4
namespace Go.Proofs.Ytacnclofbnafiab
open Go.RowKit Fl

theorem padd_iv (F : Ops) {X1 X2 Y1 Y2 : Nat} {k l k' l' : Int} (h : Iv X1 X2 k l) (h' : Iv Y1 Y2 k' l') : Iv (B (F.aD k k')) (B (F.aU l l')) (F.aD k k') (F.aU l l') := by
  have hI := INF_pos
  have u1 := h.le
  have u2 := h.lo
  have u3 := h.hi
  have v1 := h'.le
  have v2 := h'.lo
  have v3 := h'.hi
  have p := F.add_pl h.x.pl h'.x.pl
  have q := F.add_pl h.y.pl h'.y.pl
  have m := F.add_mono h.x.pl h'.x.pl h.y.pl h'.y.pl u1 v1
  have A := F.add h.x.pl h'.x.pl
  have Z := F.add h.y.pl h'.y.pl
  have px := h.x.pl
  have py := h'.x.pl
  have qx := h.y.pl
  have qy := h'.y.pl
  unfold Pl at px py qx qy
  have lo : F.aD k k' < INF := by
    by_cases f : -(INF : Int) < k ∧ -(INF : Int) < k'
    · exact (A.num f.1 u2 f.2 v2).dn.hi
    · have := A.bot (by omega); omega
  have hi : -(INF : Int) < F.aU l l' := by
    by_cases f : l < INF ∧ l' < INF
    · exact (Z.num u3 f.1 v3 f.2).up.lo
    · have := Z.top (by omega); omega
  have le : F.aD k k' ≤ F.aU k k' := by
    by_cases f : -(INF : Int) < k ∧ -(INF : Int) < k'
    · exact (A.num f.1 u2 f.2 v2).le (Ep_anti _)
    · have := A.bot (by omega); omega
  exact ⟨Key.at p.1, Key.at q.2, by omega, lo, hi⟩
end Go.Proofs.Ytacnclofbnafiab
