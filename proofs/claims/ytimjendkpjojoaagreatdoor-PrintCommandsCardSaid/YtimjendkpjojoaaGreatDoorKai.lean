/- Q3 in one. -/
import Derived.Test.YtimjendkpjojoaaGreatDoorKah
import Derived.Test.YtimjendkpjojoaaGreatDoorKaf
import Derived.Test.YtimjendkpjojoaaGreatDoorKm
import Derived.Test.YtimjendkpjojoaaGreatDoorKi
namespace Go.Proofs.YtimjendkpjojoaaGreatDoor
set_option linter.unusedVariables false
set_option linter.unusedSimpArgs false
open Go.ChangeShapes Go.WideShapes Go.ChangeAt Go.RowKit

theorem own_kind' {w : World} {B e s n : Nat} {v : Value} {xs : List Value} (h : w.ownsRow B e s v n xs) {g : Nat} (hg : v.ownBlock = some g) : ∃ cur, w.heap[g]? = some (.cells cur e (0, 0)) := by
  rcases h.2 with ⟨rfl, _⟩ | ⟨g', cap, cur, rfl, _, hgg, _⟩
  · simp [Value.ownBlock] at hg
  · simp [Value.ownBlock] at hg
    subst hg
    exact ⟨cur, hgg⟩
theorem own_apart {w : World} {B e s n B' e' s' n' : Nat} {v v' : Value} {xs xs' : List Value} (h : w.ownsRow B e s v n xs) (h' : w.ownsRow B' e' s' v' n' xs') (ne : e ≠ e') : v.ownBlock = none ∨ v.ownBlock ≠ v'.ownBlock := by
  cases hb : v.ownBlock with
  | none => exact .inl rfl
  | some g =>
    refine .inr (fun e1 => ?_)
    obtain ⟨c1, k1⟩ := own_kind' h hb
    obtain ⟨c2, k2⟩ := own_kind' h' e1.symm
    rw [k1] at k2
    injection k2 with k2
    injection k2 with _ k2
    exact ne k2
def hCells (l : List Hv) : List Value := (l.map hC).flatten
theorem hCells_app (l k : List Hv) : hCells (l ++ k) = hCells l ++ hCells k := by simp [hCells]
theorem hCells_len : ∀ (l : List Hv), (hCells l).length = l.length * 4
  | [] => rfl
  | x :: r => by have := hCells_len r; simp [hCells, hC] at this ⊢; omega
theorem hCells_one (l : List Hv) : ∀ u ∈ hCells l, u.oneCell' = true := by
  intro u hu
  obtain ⟨x, hx, hu⟩ := List.mem_flatten.1 hu
  obtain ⟨h, _, rfl⟩ := List.mem_map.1 hx
  simp [hC] at hu
  rcases hu with rfl | rfl | rfl | rfl <;> rfl
theorem hCells_get : ∀ (l : List Hv) (i : Nat) (h : i < l.length), (hCells l)[i * 4]? = some (.int .u8 l[i].p.op) ∧ (hCells l)[i * 4 + 1]? = some (.string l[i].p.nm) ∧ (hCells l)[i * 4 + 2]? = some (.slice l[i].an l[i].nn l[i].nc) ∧ (hCells l)[i * 4 + 3]? = some (.slice l[i].aa l[i].p.k l[i].ac)
  | t :: r, 0, _ => ⟨rfl, rfl, rfl, rfl⟩
  | t :: r, i + 1, h => by
    have ih := hCells_get r i (by simpa using h)
    have e : ∀ j, (hCells (t :: r))[j + 4]? = (hCells r)[j]? := fun j => rfl
    refine ⟨?_, ?_, ?_, ?_⟩
    · rw [show (i + 1) * 4 = i * 4 + 4 by omega, e]; exact ih.1
    · rw [show (i + 1) * 4 + 1 = i * 4 + 1 + 4 by omega, e]; exact ih.2.1
    · rw [show (i + 1) * 4 + 2 = i * 4 + 2 + 4 by omega, e]; exact ih.2.2.1
    · rw [show (i + 1) * 4 + 3 = i * 4 + 3 + 4 by omega, e]; exact ih.2.2.2
theorem info2' : (Tryz.prog.info? 2).map (fun i => (i.zero, i.size, i.bytes)) = some (some (.int .i64 0), 1, 8) := by kernel_rfl
theorem info25 : (Tryz.prog.info? 25).map (fun i => (i.zero, i.size, i.bytes)) = some (some (.agg #[.int .u8 0, .string ⟨#[]⟩, .slice none 0 0, .slice none 0 0]), 4, 72) := by kernel_rfl
/-- A number appended to a row of the call's own. -/
theorem appN {ops : Array Oper} {rest : List Oper} {o : Oper} {a : Act} {Q : Exit → Act → World → Prop} (hgd : o.guard = none) (s x : Operand)
    (ho : o.op = .call { callee := .builtin .append, args := #[s, x], argTypes := #[22, 22] }) (base : Nat) (w : World) (v : Value) (l : List Int) (hs : a.eval s = v) (hown : w.ownsRow base 2 1 v l.length (l.map (Value.int .i64))) (b m : Nat) (z : Int) (hx : a.eval x = .slice (some ⟨b, 0, none⟩) 1 m) (hb : w.heap[b]? = some (.cells #[.int .i64 z] 2 (0, 0))) (hn : l.length ≤ 100000) (hbase : base ≤ w.heap.size)
    (h : ∀ v' w', w'.ownsRow base 2 1 v' (l ++ [z]).length ((l ++ [z]).map (Value.int .i64)) → w.grownBy w' v.ownBlock → (v'.ownBlock = v.ownBlock ∨ v'.ownBlock = some w.heap.size) → wpList Tryz.prog ops Q rest (a.put o.dst v') w') : wpList Tryz.prog ops Q (o :: rest) a w := by
  obtain ⟨k0, hk, hkz0, hkz1, hkz2⟩ := info_parts' info2'
  refine wpList_append_own_at _ hgd s x 22 ho base 2 k0 (.int .i64 0) 1 8 Tryz.underlying22 hk hkz0 hkz1 hkz2 rfl (by decide) v l.length (l.map (Value.int .i64)) hs hown ⟨b, 0, none⟩ 1 m [.int .i64 z] hx (by rfl) (fun j u hj => ?_) (fun u hu => by simp at hu; subst hu; rfl) (by unfold maxLen; omega) (by omega) hbase (fun v' w' a b _ c => h v' w' (by rw [List.length_append, List.map_append]; exact a) b c)
  rw [show (Addr.add ⟨b, 0, none⟩ j) = ⟨b, j, none⟩ by simp only [Addr.add, Nat.zero_add]; split <;> simp_all, cell_blk hb j]
  simpa using hj
/-- An expression appended to a row of the call's own. -/
theorem appE {ops : Array Oper} {rest : List Oper} {o : Oper} {a : Act} {Q : Exit → Act → World → Prop} (hgd : o.guard = none) (s x : Operand)
    (ho : o.op = .call { callee := .builtin .append, args := #[s, x], argTypes := #[23, 23] }) (base : Nat) (w : World) (v : Value) (l : List Hv) (hs : a.eval s = v) (hown : w.ownsRow base 25 4 v l.length (hCells l)) (b m : Nat) (z : Hv) (hx : a.eval x = .slice (some ⟨b, 0, none⟩) 1 m) (hb : w.heap[b]? = some (.cells (hC z).toArray 25 (0, 0))) (hn : l.length ≤ 100000) (hbase : base ≤ w.heap.size)
    (h : ∀ v' w', w'.ownsRow base 25 4 v' (l ++ [z]).length (hCells (l ++ [z])) → w.grownBy w' v.ownBlock → (v'.ownBlock = v.ownBlock ∨ v'.ownBlock = some w.heap.size) → wpList Tryz.prog ops Q rest (a.put o.dst v') w') : wpList Tryz.prog ops Q (o :: rest) a w := by
  obtain ⟨k0, hk, hkz0, hkz1, hkz2⟩ := info_parts' info25
  refine wpList_append_own_at _ hgd s x 23 ho base 25 k0 _ 4 72 Tryz.underlying23 hk hkz0 hkz1 hkz2 rfl (by decide) v l.length (hCells l) hs hown ⟨b, 0, none⟩ 1 m (hC z) hx (by rfl) (fun j u hj => ?_) (fun u hu => hCells_one [z] u (by simpa [hCells] using hu)) (by unfold maxLen; omega) (by omega) hbase (fun v' w' a b _ c => h v' w' (by rw [List.length_append, hCells_app]; simpa [hCells] using a) b c)
  rw [show (Addr.add ⟨b, 0, none⟩ j) = ⟨b, j, none⟩ by simp only [Addr.add, Nat.zero_add]; split <;> simp_all, cell_blk hb j]
  simpa using hj
theorem own_nat {w : World} {B : Nat} {v : Value} {l : List Int} (h : w.ownsRow B 2 1 v l.length (l.map (Value.int .i64))) (hb : ∀ z ∈ l, -9223372036854775808 ≤ z ∧ z ≤ 9223372036854775807) : ∃ ao c, v = .slice ao l.length c ∧ NAt (only (frB B) w) ao l.length c l := by
  rcases h.2 with ⟨rfl, h0⟩ | ⟨g, cap, cur, rfl, hB, hg, h1, h2, h3, h4⟩
  · have h0 : l = [] := by simpa using h0
    subst h0
    exact ⟨none, 0, rfl, ⟨rfl, Nat.le_refl _, Nat.zero_le _, fun _ => ⟨rfl, rfl⟩, fun h => absurd h (Nat.lt_irrefl _)⟩⟩
  · refine ⟨some ⟨g, 0, none⟩, cap, rfl, ⟨rfl, h1, by unfold maxLen at h2; omega, (fun e => by cases e), fun h0 => ⟨g, 0, rfl, fun i hi => ⟨only_cell.2 ⟨frB_le hB, ?_⟩, hb _ (List.getElem_mem hi)⟩⟩⟩⟩
    rw [Nat.zero_add, cell_blk hg]
    have e : (l.map (Value.int .i64))[i]? = some (.int .i64 l[i]) := by simp [hi]
    rw [← h4, List.getElem?_take_of_lt (by omega)] at e
    simpa using e
/-- What operands holds on its way: its result's box, its expression's box, the rows. -/
structure OpI (w0 W w : World) (rb b : Nat) (ao : Option Addr) (n c : Nat) (l : List Lx.Tk) (s : Lx.St) (o : Int) (vn va : Value) (nums : List Int) (vs : List Hv) (Fs : List Lx.Ex) (m : Nat) : Prop where
  rd : Rd w0 w rb ao n c l s
  gr : W.grownBy w (some rb)
  lo : W.heap.size = b
  ne : w0.heap.size ≤ b ∧ rb < b
  res : w.heap[b]? = some (.cells #[.int .u8 0, .string ⟨#[]⟩, .slice none 0 0, .slice none 0 0] 25 (0, 0))
  xb : w.heap[b + 1]? = some (.cells #[.int .u8 o, .string ⟨#[]⟩, vn, va] 25 (0, 0))
  nr : w.ownsRow (b + 2) 2 1 vn nums.length (nums.map (Value.int .i64))
  nb : ∀ z ∈ nums, -9223372036854775808 ≤ z ∧ z ≤ 9223372036854775807
  ar : w.ownsRow (b + 2) 25 4 va vs.length (hCells vs)
  len : Fs.length = vs.length
  ex : ∀ i (h : i < vs.length) (h' : i < Fs.length), ExAt (only (fun q => decide (b + 2 ≤ q) && decide (va.ownBlock ≠ some q)) w) m (hV vs[i]) (tour Fs[i])
theorem ne_row {w : World} {B e s n : Nat} {v : Value} {xs : List Value} (h : w.ownsRow B e s v n xs) {q : Nat} (hq : q < B) : v.ownBlock = none ∨ v.ownBlock ≠ some q := by
  cases hb : v.ownBlock with
  | none => exact .inl rfl
  | some g => refine .inr (fun e => ?_); cases e; have := (h.lt _ hb).1; omega
/-- Whatever changes none of its blocks but the reader's. -/
theorem OpI.step {w0 W w w' : World} {rb b : Nat} {ao : Option Addr} {n c : Nat} {l : List Lx.Tk} {s s' : Lx.St} {o : Int} {vn va : Value} {nums : List Int} {vs : List Hv} {Fs : List Lx.Ex} {m : Nat} (h : OpI w0 W w rb b ao n c l s o vn va nums vs Fs m) (r : Rd w0 w' rb ao n c l s') (g : w.grownBy w' (some rb)) : OpI w0 W w' rb b ao n c l s' o vn va nums vs Fs m := by
  have hn := h.ne
  refine ⟨r, grown_trans h.gr g, h.lo, h.ne, blk_stay h.res g (by omega), blk_stay h.xb g (by omega), h.nr.kept g (ne_row h.nr (by omega)), h.nb, h.ar.kept g (ne_row h.ar (by omega)), h.len, fun i hi hi' => (h.ex i hi hi').sub (only_sub (fun q e lt => ⟨e, ?_⟩))⟩
  have : b + 2 ≤ q := by simp at e; exact e.1
  exact g.block q lt (fun e => by have := Option.some.inj e; omega)
theorem OpI.keep {w0 W w w' : World} {rb b : Nat} {ao : Option Addr} {n c : Nat} {l : List Lx.Tk} {s : Lx.St} {o : Int} {vn va : Value} {nums : List Int} {vs : List Hv} {Fs : List Lx.Ex} {m : Nat} (h : OpI w0 W w rb b ao n c l s o vn va nums vs Fs m) (k : Below w.heap.size w w') : OpI w0 W w' rb b ao n c l s o vn va nums vs Fs m := h.step (h.rd.keep k) (grown_of_below k _)
theorem grown_row {a b c : World} {row row' : Option Nat} (h : a.grownBy b row) (k : b.grownBy c row') (hg : ∀ q, row' = some q → a.heap.size ≤ q) : a.grownBy c row :=
  ⟨k.os.trans h.os, k.tape.trans h.tape, k.output.trans h.output, Nat.le_trans h.size k.size, fun q hq hne => (k.block q (Nat.lt_of_lt_of_le hq h.size) (fun e => by have := hg q e.symm; omega)).trans (h.block q hq hne)⟩
/-- A number more: the row has grown, and the box is written. -/
theorem OpI.num {w0 W w w4 : World} {rb b : Nat} {ao : Option Addr} {n c : Nat} {l : List Lx.Tk} {s : Lx.St} {o : Int} {vn va v' : Value} {nums : List Int} {vs : List Hv} {Fs : List Lx.Ex} {m : Nat} {z : Int} (h : OpI w0 W w rb b ao n c l s o vn va nums vs Fs m) (hv : vs = []) (hz : -9223372036854775808 ≤ z ∧ z ≤ 9223372036854775807) (own : w4.ownsRow (b + 2) 2 1 v' (nums ++ [z]).length ((nums ++ [z]).map (Value.int .i64))) (g : w.grownBy w4 vn.ownBlock) : OpI w0 W (w4.setCell ⟨b + 1, 2, none⟩ v') rb b ao n c l s o v' va (nums ++ [z]) vs Fs m := by
  have hn := h.ne
  subst hv
  have gx : w4.grownBy (w4.setCell ⟨b + 1, 2, none⟩ v') (some (b + 1)) := grow_cell _ _ _
  have hrow : ∀ q, vn.ownBlock = some q → b + 2 ≤ q := fun q e => (h.nr.lt q e).1
  have lt2 := (Array.getElem?_eq_some_iff.1 h.xb).1
  have k0 : ∀ {q : Nat} {cs : Array Value} {t : TypeId}, q < b + 2 → w.heap[q]? = some (.cells cs t (0, 0)) → w4.heap[q]? = some (.cells cs t (0, 0)) := fun {q cs t} hq e => (g.block q (Array.getElem?_eq_some_iff.1 e).1 (fun e' => by have := hrow q e'.symm; omega)).trans e
  have R4 : Rd w0 w4 rb ao n c l s := h.rd.grown g (fun q e => by have := hrow q e; omega)
  refine ⟨R4.grown gx (fun q e => by cases e; omega), grown_new (grown_row h.gr g (fun q e => by have := hrow q e; have := h.lo; omega)) gx (by have := h.lo; omega), h.lo, h.ne, blk_stay (k0 (by omega) h.res) gx (by omega), ?_, own.kept gx (ne_row own (by omega)), fun y hy => ?_, ?_, h.len, fun i hi => absurd hi (Nat.not_lt_zero _)⟩
  · rw [set_block (k0 (by omega) h.xb)]; rfl
  · rcases List.mem_append.1 hy with e | e
    · exact h.nb y e
    · simp at e; subst e; exact hz
  · have ap := own_apart h.ar h.nr (by decide)
    exact (h.ar.kept g ap).kept gx (ne_row h.ar (by omega))
/-- An argument more. -/
theorem OpI.arg {w0 W w w4 : World} {rb b : Nat} {ao : Option Addr} {n c : Nat} {l : List Lx.Tk} {s : Lx.St} {o : Int} {vn va v' : Value} {nums : List Int} {vs : List Hv} {Fs : List Lx.Ex} {m : Nat} {z : Hv} {F : Lx.Ex} {B : Nat} (h : OpI w0 W w rb b ao n c l s o vn va nums vs Fs m) (hB : b + 2 ≤ B) (hBa : ∀ q, va.ownBlock = some q → q < B) (hz : ExAt (only (frB B) w) m (hV z) (tour F)) (own : w4.ownsRow (b + 2) 25 4 v' (vs ++ [z]).length (hCells (vs ++ [z]))) (g : w.grownBy w4 va.ownBlock) (hv : v'.ownBlock = va.ownBlock ∨ ∀ q, v'.ownBlock = some q → w.heap.size ≤ q) : OpI w0 W (w4.setCell ⟨b + 1, 3, none⟩ v') rb b ao n c l s o vn v' nums (vs ++ [z]) (Fs ++ [F]) m := by
  have hn := h.ne
  have gx : w4.grownBy (w4.setCell ⟨b + 1, 3, none⟩ v') (some (b + 1)) := grow_cell _ _ _
  have hrow : ∀ q, va.ownBlock = some q → b + 2 ≤ q := fun q e => (h.ar.lt q e).1
  have k0 : ∀ {q : Nat} {cs : Array Value} {t : TypeId}, q < b + 2 → w.heap[q]? = some (.cells cs t (0, 0)) → w4.heap[q]? = some (.cells cs t (0, 0)) := fun {q cs t} hq e => (g.block q (Array.getElem?_eq_some_iff.1 e).1 (fun e' => by have := hrow q e'.symm; omega)).trans e
  have R4 : Rd w0 w4 rb ao n c l s := h.rd.grown g (fun q e => by have := hrow q e; omega)
  have kx : ∀ q, b + 2 ≤ q → va.ownBlock ≠ some q → q < w.heap.size → (decide (b + 2 ≤ q) && decide (v'.ownBlock ≠ some q)) = true ∧ (w4.setCell ⟨b + 1, 3, none⟩ v').heap[q]? = w.heap[q]? := fun q q1 q2 q3 => by
    refine ⟨?_, (gx.block q (Nat.lt_of_lt_of_le q3 g.size) (fun e => by have := Option.some.inj e; omega)).trans (g.block q q3 (fun e => q2 e.symm))⟩
    simp only [Bool.and_eq_true, decide_eq_true_eq]
    refine ⟨q1, fun e => ?_⟩
    rcases hv with e' | e'
    · exact q2 (e' ▸ e)
    · have := e' q e; omega
  refine ⟨R4.grown gx (fun q e => by cases e; omega), grown_new (grown_row h.gr g (fun q e => by have := hrow q e; have := h.lo; omega)) gx (by have := h.lo; omega), h.lo, h.ne, blk_stay (k0 (by omega) h.res) gx (by omega), ?_, ?_, h.nb, own.kept gx (ne_row own (by omega)), by simp [h.len], fun i hi hi' => ?_⟩
  · rw [set_block (k0 (by omega) h.xb)]; rfl
  · have ap := own_apart h.nr h.ar (by decide)
    exact (h.nr.kept g ap).kept gx (ne_row h.nr (by omega))
  · have hl := h.len
    by_cases q : i < vs.length
    · have e1 : (vs ++ [z])[i] = vs[i] := List.getElem_append_left q
      have e2 : (Fs ++ [F])[i] = Fs[i]'(by omega) := List.getElem_append_left (by omega)
      rw [e1, e2]
      refine (h.ex i q (by omega)).sub (only_sub (fun r e lt => ?_))
      simp only [Bool.and_eq_true, decide_eq_true_eq] at e
      exact kx r e.1 e.2 lt
    · have e0 : i = vs.length := by simp at hi; omega
      subst e0
      have e1 : (vs ++ [z])[vs.length] = z := by simp
      have e2 : (Fs ++ [F])[vs.length]'hi' = F := by simp [← hl]
      rw [e1, e2]
      refine hz.sub (only_sub (fun r e lt => ?_))
      have := le_frB e
      exact kx r (by omega) (fun e => by have := hBa r e; omega) lt
/-- What it comes to. -/
theorem OpI.done {w0 W w : World} {rb b : Nat} {ao : Option Addr} {n c : Nat} {l : List Lx.Tk} {s : Lx.St} {o : Int} {vn va : Value} {nums : List Int} {vs : List Hv} {Fs : List Lx.Ex} {m : Nat} (h : OpI w0 W w rb b ao n c l s o vn va nums vs Fs m) (ho : 0 ≤ o ∧ o ≤ 255) : ∃ an nc aa ac, vn = .slice an nums.length nc ∧ va = .slice aa Fs.length ac ∧ ExAt (only (frB (b + 2)) w) (m + 1) (.agg #[.int .u8 o, .string ⟨#[]⟩, vn, va]) (tour (.mk o [] nums Fs)) := by
  obtain ⟨an, nc, rfl, hN⟩ := own_nat h.nr h.nb
  have hl := h.len
  have hlo := h.lo
  have et : tour (.mk o [] nums Fs) = fun d => ((⟨o, ⟨#[]⟩, nums, Fs.length⟩ : Pt), d) :: flat (Fs.map tour) (d + 1) := by
    funext d; rw [tour, tours_flat]
  have har := h.ar
  rcases har.2 with ⟨rfl, h0⟩ | ⟨g, cap, cur, rfl, hB, hg, h1, h2, h3, h4⟩
  · have h0 : vs = [] := by simpa using h0
    subst h0
    have h0 : Fs = [] := List.eq_nil_of_length_eq_zero hl
    subst h0
    refine ⟨an, nc, none, 0, rfl, rfl, ⟨⟨o, ⟨#[]⟩, nums, 0⟩, an, nums.length, nc, none, 0, [], rfl, ⟨ho.1, ho.2, (show (0 : Nat) ≤ maxLen from Nat.zero_le _), hN, Nat.le_refl _, Nat.zero_le _, fun _ => ⟨rfl, rfl⟩⟩, rfl, et, fun h => absurd h (Nat.lt_irrefl _)⟩⟩
  · refine ⟨an, nc, some ⟨g, 0, none⟩, cap, rfl, by rw [hl], ?_⟩
    rw [← hl]
    refine ⟨⟨o, ⟨#[]⟩, nums, Fs.length⟩, an, nums.length, nc, some ⟨g, 0, none⟩, cap, Fs.map tour, rfl, ⟨ho.1, ho.2, (show (0 : Nat) ≤ maxLen from Nat.zero_le _), hN, by show Fs.length ≤ cap; omega, by unfold maxLen at h2; omega, fun e => by cases e⟩, by simp, et, fun h0 => ⟨g, 0, rfl, fun i hi => ?_⟩⟩
    have hi1 : i < Fs.length := by simpa using hi
    have hi2 : i < vs.length := by omega
    have gt := hCells_get vs i hi2
    have e : ∀ j, j < vs.length * 4 → (only (frB (b + 2)) w).cell? ⟨g, 0 + j, none⟩ = (hCells vs)[j]? := fun j hj => by
      have hc := hCells_len vs
      have e1 : (hCells vs)[j]? = cur[j]? := by rw [← h4, List.getElem?_take_of_lt hj]; simp
      have e2 : ∃ u, (hCells vs)[j]? = some u := ⟨_, List.getElem?_eq_getElem (by omega)⟩
      obtain ⟨u, hu⟩ := e2
      rw [hu]
      refine only_cell.2 ⟨frB_le hB, ?_⟩
      rw [Nat.zero_add, cell_blk hg, ← e1, hu]
    have hx := (h.ex i hi2 hi1).sub (w' := only (frB (b + 2)) w) (only_sub (fun q e _ => ⟨frB_le (by simp at e; omega), rfl⟩))
    refine ⟨.int .u8 vs[i].p.op, .string vs[i].p.nm, .slice vs[i].an vs[i].nn vs[i].nc, .slice vs[i].aa vs[i].p.k vs[i].ac, (e _ (by omega)).trans gt.1, ?_, ?_, ?_, ?_⟩
    · rw [Nat.add_assoc]; exact (e _ (by omega)).trans gt.2.1
    · rw [Nat.add_assoc]; exact (e _ (by omega)).trans gt.2.2.1
    · rw [Nat.add_assoc]; exact (e _ (by omega)).trans gt.2.2.2
    · rw [List.getElem_map]; exact hx
end Go.Proofs.YtimjendkpjojoaaGreatDoor
