import Derived.Test.YtacnclofbnafiabGreatDoorA6
import Derived.Deep.QuietTactic
namespace Go.Proofs.YtacnclofbnafiabGreatDoor
open Go.RowKit Fl

/-- The policy of a list that was made. -/
theorem LM.pl {w wr : World} {ks : List Int} {vp : Value} (h : LM w ks vp ks.length wr) : PL wr.heap.size w.heap.size ks vp wr [] (fun k => k = w.heap.size ∨ (Value.slice none 0 0).ownBlock = some k ∨ vp.ownBlock = some k) := by
  have o := h.ow
  rw [List.take_length] at o
  refine ⟨.slice none 0 0, ⟨h.l0, h.l1, h.f1, ?_, World.ownsRow_nil _ _ _ _, Nat.le_refl _, h.lt, fun k c => ?_⟩, rfl⟩
  · refine ⟨o.1, ?_⟩
    rcases o.2 with q | ⟨g, cap, cur, e1, e2, r⟩
    · exact .inl q
    · exact .inr ⟨g, cap, cur, e1, Nat.zero_le _, r⟩
  · have := o.lt k c; exact ⟨this.2, by omega⟩
theorem below_only {B : Nat} {w u v : World} {S : Nat → Prop} (h : Below B w u) (hO : Only S u v) (hB : B ≤ u.heap.size) (hS : ∀ k, S k → B ≤ k) : Below B w v :=
  ⟨hO.os.trans h.os, hO.tape.trans h.tape, hO.output.trans h.output, Nat.le_trans h.size hO.size, fun k hk => (hO.block k (by omega) fun c => by have := hS k c; omega).trans (h.block k hk)⟩
theorem ErrIs.below {w u : World} {x : Value} {er at_ : Int} (h : ErrIs w x er at_) (hb : Below w.heap.size w u) : ErrIs u x er at_ := by
  rcases h with ⟨bf, h1, h2, h3⟩ | h
  · exact .inl ⟨bf, h1, bkeep2 hb h2, bkeep2 hb h3⟩
  · exact .inr h
theorem stp_err (P : Plane) (bs ds : List St) (kdf : Nat → Int) (gd : Nat → Bool) (c i : Int) (st : List St) (qs : List (Int × Int)) : 0 ≤ (stp P bs ds kdf gd c i st qs).1 ∧ (stp P bs ds kdf gd c i st qs).1 ≤ 5 := by
  unfold stp
  repeat' split
  all_goals simp
theorem runs_err (P : Plane) (bs ds : List St) (kdf : Nat → Int) (gd : Nat → Bool) : ∀ (cs : List Int) (i : Int) (st : List St) (qs : List (Int × Int)), 0 ≤ (runs P bs ds kdf gd cs i st qs).1 ∧ (runs P bs ds kdf gd cs i st qs).1 ≤ 5
  | [], i, st, qs => by
    rw [runs_nil]
    show 0 ≤ (if _ then (0 : Int) else 4) ∧ (if _ then (0 : Int) else 4) ≤ 5
    split <;> simp
  | c :: cs, i, st, qs => by
    rw [runs_cons]
    split
    · exact runs_err P bs ds kdf gd cs (i + 1) _ _
    · exact stp_err P bs ds kdf gd c i st qs
theorem ans_err (P : Plane) (s : ByteArray) (bl : List Bx) (dl : List Dc) (kdf : Nat → Int) (gd : Nat → Bool) : 0 ≤ (ans P s bl dl kdf gd).1 ∧ (ans P s bl dl kdf gd).1 ≤ 5 := by
  unfold ans
  split
  · simp
  · exact runs_err P _ _ kdf gd _ _ _ _
theorem asked_len (P : Plane) (bs ds : List St) (kdf : Nat → Int) (gd : Nat → Bool) : ∀ (cs : List Int) (i : Int) (st : List St) (qs : List (Int × Int)), (runs P bs ds kdf gd cs i st qs).2.2.2.length ≤ cs.length + qs.length
  | [], i, st, qs => by rw [runs_nil]; simp
  | c :: cs, i, st, qs => by
    have h := (stp_len P bs ds kdf gd c i st qs).2
    rw [runs_cons]
    split
    · have := asked_len P bs ds kdf gd cs (i + 1) (stp P bs ds kdf gd c i st qs).2.1 (stp P bs ds kdf gd c i st qs).2.2
      simp only [List.length_cons]; omega
    · show (stp P bs ds kdf gd c i st qs).2.2.length ≤ _
      simp only [List.length_cons]; omega
theorem ans_len (P : Plane) (s : ByteArray) (bl : List Bx) (dl : List Dc) (kdf : Nat → Int) (gd : Nat → Bool) : (ans P s bl dl kdf gd).2.2.2.length ≤ 60 := by
  unfold ans
  split
  · simp
  · rename_i h
    have := asked_len P (bl.map St.box) (dl.map St.disc) kdf gd (byts s) 0 [] []
    rw [byts_len] at this
    simp at this
    omega
/-- The forms of what Eval answers. -/
theorem val_forms {v : Value} (h : (∃ z : St, v = z.val) ∨ v = V0) : ∃ k a b c d e f g, v = .agg #[.int .i64 k, .float .f64 a, .float .f64 b, .float .f64 c, .float .f64 d, .complex .f64 e f, .float .f64 g] := by
  rcases h with ⟨z, rfl⟩ | rfl
  · rcases St.forms z with ⟨z, rfl⟩ | ⟨z, rfl⟩
    · exact ⟨_, _, _, _, _, _, _, _, rfl⟩
    · exact ⟨_, _, _, _, _, _, _, _, rfl⟩
  · exact ⟨_, _, _, _, _, _, _, _, rfl⟩
theorem bxf_ok {w : World} {v : Value} {f : Nat → Nat} (h : Lst w v f) (n : Nat) : ∀ x ∈ (List.range n).map (bxf f), x.ok := by
  intro x hx
  obtain ⟨i, _, rfl⟩ := List.mem_map.mp hx
  exact ⟨h.lt _, h.lt _, h.lt _, h.lt _⟩
end Go.Proofs.YtacnclofbnafiabGreatDoor
