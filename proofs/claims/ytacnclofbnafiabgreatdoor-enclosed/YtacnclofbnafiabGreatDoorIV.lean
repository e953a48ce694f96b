import Derived.Test.YtacnclofbnafiabGreatDoorM1
import Derived.Test.YtacnclofbnafiabGreatDoorKA
namespace Go.Proofs.YtacnclofbnafiabGreatDoor
open Go.RowKit Fl

theorem padd_iv (F : Ops) {X1 X2 Y1 Y2 : Nat} {k l k' l' : Int} (h : Iv X1 X2 k l) (h' : Iv Y1 Y2 k' l') : Iv (B (F.aD k k')) (B (F.aU l l')) (F.aD k k') (F.aU l l') := by
  have hI := INF_pos
  have u1 := h.le
  have u2 := h.lo
  have u3 := h.hi
  have v1 := h'.le
  have v2 := h'.lo
  have v3 := h'.hi
  have p := F.add_pl h.x.pl h'.x.pl
  have q := F.add_pl h.y.pl h'.y.pl
  have m := F.add_mono h.x.pl h'.x.pl h.y.pl h'.y.pl u1 v1
  have A := F.add h.x.pl h'.x.pl
  have Z := F.add h.y.pl h'.y.pl
  have px := h.x.pl
  have py := h'.x.pl
  have qx := h.y.pl
  have qy := h'.y.pl
  unfold Pl at px py qx qy
  have lo : F.aD k k' < INF := by
    by_cases f : -(INF : Int) < k ∧ -(INF : Int) < k'
    · exact (A.num f.1 u2 f.2 v2).dn.hi
    · have := A.bot (by omega); omega
  have hi : -(INF : Int) < F.aU l l' := by
    by_cases f : l < INF ∧ l' < INF
    · exact (Z.num u3 f.1 v3 f.2).up.lo
    · have := Z.top (by omega); omega
  have le : F.aD k k' ≤ F.aU k k' := by
    by_cases f : -(INF : Int) < k ∧ -(INF : Int) < k'
    · exact (A.num f.1 u2 f.2 v2).le (Ep_anti _)
    · have := A.bot (by omega); omega
  exact ⟨Key.at p.1, Key.at q.2, by omega, lo, hi⟩
theorem pmul_iv (F : Ops) {X1 X2 Y1 Y2 : Nat} {k l k' l' : Int} (h : Iv X1 X2 k l) (h' : Iv Y1 Y2 k' l') : Iv (B (F.pLo k l k' l')) (B (F.pHi k l k' l')) (F.pLo k l k' l') (F.pHi k l k' l') := by
  have hI := INF_pos
  have u1 := h.le
  have u2 := h.lo
  have u3 := h.hi
  have v1 := h'.le
  have v2 := h'.lo
  have v3 := h'.hi
  have p := F.p_pl h.x.pl h.y.pl h'.x.pl h'.y.pl
  have px := h.x.pl
  have py := h'.x.pl
  have qx := h.y.pl
  have qy := h'.y.pl
  -- a number of x times a number of y: both finite
  obtain ⟨c, c1, c2, c3, c4⟩ : ∃ c, k ≤ c ∧ c ≤ l ∧ -(INF : Int) < c ∧ c < INF := by
    by_cases f : -(INF : Int) < k
    · exact ⟨k, by omega, u1, f, u2⟩
    · by_cases f' : l < INF
      · exact ⟨l, u1, by omega, u3, f'⟩
      · exact ⟨0, by omega, by omega, by omega, by omega⟩
  obtain ⟨d, d1, d2, d3, d4⟩ : ∃ d, k' ≤ d ∧ d ≤ l' ∧ -(INF : Int) < d ∧ d < INF := by
    by_cases f : -(INF : Int) < k'
    · exact ⟨k', by omega, v1, f, v2⟩
    · by_cases f' : l' < INF
      · exact ⟨l', v1, by omega, v3, f'⟩
      · exact ⟨0, by omega, by omega, by omega, by omega⟩
  have pc : Pl c := ⟨by omega, by omega⟩
  have pd : Pl d := ⟨by omega, by omega⟩
  have q := F.p_has px qx py qy pc pd c1 c2 d1 d2
  have r := (F.mul pc pd).num c3 c4 d3 d4
  have e := F.mul_le pc pd
  have a1 := r.dn.hi
  have a2 := r.up.lo
  exact ⟨Key.at p.1, Key.at p.2, by omega, by omega, by omega⟩
end Go.Proofs.YtacnclofbnafiabGreatDoor
