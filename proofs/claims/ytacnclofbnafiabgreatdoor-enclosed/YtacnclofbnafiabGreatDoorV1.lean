import Derived.Test.YtacnclofbnafiabGreatDoorX3
import Derived.WalkKit
namespace Go.Proofs.YtacnclofbnafiabGreatDoor
open Go.RowKit Fl

/-- A list of n float64s that lies in w. -/
def Arr (w : World) (v : Value) (n : Nat) (g : Nat → Nat) : Prop := ∃ b c, v = .slice (some ⟨b, 0, none⟩) n c ∧ b < w.heap.size ∧ ∀ j, j < n → w.cell? ⟨b, j, none⟩ = some (.float .f64 (g j))
theorem Arr.below {w w' : World} {v : Value} {n B : Nat} {g : Nat → Nat} (h : Arr w v n g) (hB : w.heap.size ≤ B) (hb : Below B w w') : Arr w' v n g := by
  obtain ⟨b, c, h1, h2, h3⟩ := h
  refine ⟨b, c, h1, Nat.lt_of_lt_of_le h2 hb.size, fun j hj => ?_⟩
  rw [hb.cell (show b < B by omega), h3 j hj]
def fls (g : Nat → Nat) (n : Nat) : List Value := (List.range n).map fun j => .float .f64 (g j)
/-- An owned row of floats, as a list. -/
theorem Arr.own {w : World} {base : Nat} {v : Value} {n : Nat} {g : Nat → Nat} (h : w.ownsRow base 35 1 v n (fls g n)) (hn : 0 < n) : Arr w v n g := by
  rcases h.2 with ⟨_, h0⟩ | ⟨b, cap, cur, rfl, _⟩
  · omega
  · have hlt := h.lt b rfl
    refine ⟨b, cap, rfl, hlt.2, fun j hj => ?_⟩
    have q := h.cells (g := b) rfl j (.float .f64 (g j)) (by unfold fls; simp [hj])
    have e : (⟨b, 0, none⟩ : Addr).add j = ⟨b, j, none⟩ := by
      unfold Addr.add
      by_cases c : j = 0
      · subst c; simp
      · simp [c]
    rw [e] at q
    exact q
/-- 'append' onto a row of the call's own: what comes back lies where it lay, or in a new block. -/
theorem wpList_append_at {P : Program} (w : World) {ops : Array Oper} {rest : List Oper} {o : Oper} {a : Act} {Q : Exit → Act → World → Prop} (hgd : o.guard = none) (s x : Operand) (t : TypeId)
    (ho : o.op = .call { callee := .builtin .append, args := #[s, x], argTypes := #[t, t] })
    (base : Nat) (e : TypeId) (i : TypeInfo) (z : Value) (size bytes : Nat) (ht : P.underlying t = some (.slice e)) (hi : P.info? e = some i) (hz : i.zero = some z) (hsize : i.size = size) (hby : i.bytes = bytes) (hzs : z.cells.size = size) (hsz : 0 < size)
    (v : Value) (n : Nat) (xs : List Value) (hs : a.eval s = v) (hown : w.ownsRow base e size v n xs)
    (ad : Addr) (m c : Nat) (news : List Value) (hx : a.eval x = .slice (some ad) m c) (hl : news.length = m * size) (hnews : ∀ j u, news[j]? = some u → w.cell? (ad.add j) = some u) (h1 : ∀ u ∈ news, u.oneCell' = true)
    (h63 : n + m ≤ maxLen) (hbytes : (n + m) * bytes ≤ 140737488355328) (hbase : base ≤ w.heap.size) (hm1 : 0 < m)
    (h : ∀ v' w', w'.ownsRow base e size v' (n + m) (xs ++ news) → w.grownBy w' v.ownBlock → (∀ k, v'.ownBlock = some k → v.ownBlock = some k ∨ w.heap.size ≤ k) → wpList P ops Q rest (a.put o.dst v') w') : wpList P ops Q (o :: rest) a w := by
  have wide : ∀ {v' : Value} {w' : World} {k : Nat} {ys : List Value}, w'.ownsRow w.heap.size e size v' k ys → w'.ownsRow base e size v' k ys := fun h => by
    refine ⟨h.1, ?_⟩
    rcases h.2 with h | ⟨g, cap, cur, e1, e2, r⟩
    · exact .inl h
    · exact .inr ⟨g, cap, cur, e1, Nat.le_trans hbase e2, r⟩
  have more : ∀ {w' : World}, w.grownBy w' none → w.grownBy w' v.ownBlock := fun h => ⟨h.os, h.tape, h.output, h.size, fun k a b => h.block k a (by simp)⟩
  have olds := hown
  rcases hown.2 with ⟨rfl, rfl⟩ | ⟨g, cap, cur, rfl, hb, hg, hle, hm, hcs, htk⟩
  · refine wpList_append_grows w hgd s x t ho e i z size bytes ht hi hz hsize hby hzs hsz none 0 0 xs hs (fun _ => ⟨rfl, rfl⟩) hown.1 (fun b hb => by cases hb) ad m c news hx hl hnews h1 (by omega) h63 hbytes fun v' w' o1 g1 => h v' w' (wide o1) (more g1) fun k hk => .inr (o1.lt k hk).1
  · by_cases c1 : n + m ≤ cap
    · exact wpList_append_fits w hgd s x t ho base e i size ht hi hsize g n cap xs hs olds ad m c news hx hl hnews h1 c1 fun w' o1 g1 => h _ w' o1 g1 fun k hk => .inl hk
    · exact wpList_append_grows w hgd s x t ho e i z size bytes ht hi hz hsize hby hzs hsz (some ⟨g, 0, none⟩) n cap xs hs (fun h => by cases h) hown.1 (fun b hb => by cases hb; exact olds.cells rfl) ad m c news hx hl hnews h1 (by omega) h63 hbytes fun v' w' o1 g1 => h v' w' (wide o1) (more g1) fun k hk => .inr (o1.lt k hk).1
/-- The sum of the first n. -/
def sumV (G : Nat → Int) : Nat → Int
  | 0 => 0
  | n + 1 => sumV G n + Vk (G n)
/-- An exact sum under way: c products so far, d in all. -/
def XS (w0 : World) (be bd : Nat) (c : Nat) (d : Int) (wr : World) : Prop := ∃ F, OwnX be bd F wr ∧ (∀ j, -(1266637395197952 * (c : Int)) ≤ F j ∧ F j ≤ 1266637395197952 * (c : Int)) ∧ dv F 190 = d * 4096 ∧ Below bd w0 wr
theorem XS.add {w0 : World} {be bd c : Nat} {d : Int} {wr : World} (h : XS w0 be bd c d wr) (hc : c ≤ 400) {x y : Nat} {k l : Int} (hx : Key x k) (hy : Key y l) (fk : Fin k) (fl : Fin l) :
    Calls Tryz.prog 47 #[.pointer (some ⟨be, 0, none⟩), .float .f64 x, .float .f64 y] wr fun e w' => e = .returned (.tuple #[]) ∧ XS w0 be bd (c + 1) (d + Vk k * Vk l) w' ∧ Below bd wr w' := by
  obtain ⟨F, hX, hf, hd, hB⟩ := h
  refine (exk be bd F (1266637395197952 * (c : Int)) wr hx hy fk.1 fk.2 fl.1 fl.2 hX hf (by omega) (by omega)).mono ?_
  rintro e w' ⟨rfl, hB', F', hX', hf', hd'⟩
  refine ⟨rfl, ⟨F', hX', fun j => ?_, ?_, hB.trans hB'⟩, hB'⟩
  · have := hf' j; omega
  · rw [hd', hd]; grind
end Go.Proofs.YtacnclofbnafiabGreatDoor
