/- Q16, Q18, M29 in one. -/
import Derived.Test.YtllhcpkpbipjlaaDoorKau
import Derived.Test.YtllhcpkpbipjlaaDoorKat
import Derived.Test.YtllhcpkpbipjlaaDoorKaf
namespace Go.Proofs.YtllhcpkpbipjlaaDoor
set_option linter.unusedVariables false
set_option linter.unusedSimpArgs false
open Go.ChangeShapes Go.WideShapes Go.ChangeAt Go.RowKit
/-- What operands holds on its way: its result's box, its expression's box, the rows. -/
structure OpR (w0 W w : World) (rb b xk : Nat) (ao : Option Addr) (n c : Nat) (l : List Lx.Tk) (s : Lx.St) (o : Int) (vn va : Value) (nums : List Int) (vs : List Hv) (Fs : List Lx.Ex) (m : Nat) : Prop where
  rd : Rr w0 w rb ao n c l s
  gr : W.grownBy w (some rb)
  lo : W.heap.size = b
  ne : w0.heap.size ≤ b ∧ rb < b ∧ b < xk
  res : w.heap[b]? = some (.cells #[.int .u8 0, .string ⟨#[]⟩, .slice none 0 0, .slice none 0 0] 31 (0, 0))
  xb : w.heap[xk]? = some (.cells #[.int .u8 o, .string ⟨#[]⟩, vn, va] 31 (0, 0))
  nr : w.ownsRow (xk + 1) 2 1 vn nums.length (nums.map (Value.int .i64))
  nb : ∀ z ∈ nums, -9223372036854775808 ≤ z ∧ z ≤ 9223372036854775807
  ar : w.ownsRow (xk + 1) 31 4 va vs.length (hCells vs)
  len : Fs.length = vs.length
  ex : ∀ i (h : i < vs.length) (h' : i < Fs.length), ExAt (only (fun q => decide (xk + 1 ≤ q) && decide (va.ownBlock ≠ some q)) w) m (hV vs[i]) (tour Fs[i])
/-- Whatever changes none of its blocks but the reader's. -/
theorem OpR.step {w0 W w w' : World} {rb b xk : Nat} {ao : Option Addr} {n c : Nat} {l : List Lx.Tk} {s s' : Lx.St} {o : Int} {vn va : Value} {nums : List Int} {vs : List Hv} {Fs : List Lx.Ex} {m : Nat} (h : OpR w0 W w rb b xk ao n c l s o vn va nums vs Fs m) (r : Rr w0 w' rb ao n c l s') (g : w.grownBy w' (some rb)) : OpR w0 W w' rb b xk ao n c l s' o vn va nums vs Fs m := by
  have hn := h.ne
  refine ⟨r, grown_trans h.gr g, h.lo, h.ne, blk_stay h.res g (by omega), blk_stay h.xb g (by omega), h.nr.kept g (ne_row h.nr (by omega)), h.nb, h.ar.kept g (ne_row h.ar (by omega)), h.len, fun i hi hi' => (h.ex i hi hi').sub (only_sub (fun q e lt => ⟨e, ?_⟩))⟩
  have : xk + 1 ≤ q := by simp at e; exact e.1
  exact g.block q lt (fun e => by have := Option.some.inj e; omega)
theorem OpR.keep {w0 W w w' : World} {rb b xk : Nat} {ao : Option Addr} {n c : Nat} {l : List Lx.Tk} {s : Lx.St} {o : Int} {vn va : Value} {nums : List Int} {vs : List Hv} {Fs : List Lx.Ex} {m : Nat} (h : OpR w0 W w rb b xk ao n c l s o vn va nums vs Fs m) (k : Below w.heap.size w w') : OpR w0 W w' rb b xk ao n c l s o vn va nums vs Fs m := h.step (h.rd.keep k) (grown_of_below k _)
/-- A number more: the row has grown, and the box is written. -/
theorem OpR.num {w0 W w w4 : World} {rb b xk : Nat} {ao : Option Addr} {n c : Nat} {l : List Lx.Tk} {s : Lx.St} {o : Int} {vn va v' : Value} {nums : List Int} {vs : List Hv} {Fs : List Lx.Ex} {m : Nat} {z : Int} (h : OpR w0 W w rb b xk ao n c l s o vn va nums vs Fs m) (hv : vs = []) (hz : -9223372036854775808 ≤ z ∧ z ≤ 9223372036854775807) (own : w4.ownsRow (xk + 1) 2 1 v' (nums ++ [z]).length ((nums ++ [z]).map (Value.int .i64))) (g : w.grownBy w4 vn.ownBlock) : OpR w0 W (w4.setCell ⟨xk, 2, none⟩ v') rb b xk ao n c l s o v' va (nums ++ [z]) vs Fs m := by
  have hn := h.ne
  subst hv
  have gx : w4.grownBy (w4.setCell ⟨xk, 2, none⟩ v') (some (xk)) := grow_cell _ _ _
  have hrow : ∀ q, vn.ownBlock = some q → xk + 1 ≤ q := fun q e => (h.nr.lt q e).1
  have lt2 := (Array.getElem?_eq_some_iff.1 h.xb).1
  have k0 : ∀ {q : Nat} {cs : Array Value} {t : TypeId}, q < xk + 1 → w.heap[q]? = some (.cells cs t (0, 0)) → w4.heap[q]? = some (.cells cs t (0, 0)) := fun {q cs t} hq e => (g.block q (Array.getElem?_eq_some_iff.1 e).1 (fun e' => by have := hrow q e'.symm; omega)).trans e
  have R4 : Rr w0 w4 rb ao n c l s := h.rd.grown g (fun q e => by have := hrow q e; omega)
  refine ⟨R4.grown gx (fun q e => by cases e; omega), grown_new (grown_row h.gr g (fun q e => by have := hrow q e; have := h.lo; omega)) gx (by have := h.lo; omega), h.lo, h.ne, blk_stay (k0 (by omega) h.res) gx (by omega), ?_, own.kept gx (ne_row own (by omega)), fun y hy => ?_, ?_, h.len, fun i hi => absurd hi (Nat.not_lt_zero _)⟩
  · rw [set_block (k0 (by omega) h.xb)]; rfl
  · rcases List.mem_append.1 hy with e | e
    · exact h.nb y e
    · simp at e; subst e; exact hz
  · have ap := own_apart h.ar h.nr (by decide)
    exact (h.ar.kept g ap).kept gx (ne_row h.ar (by omega))
/-- An argument more. -/
theorem OpR.arg {w0 W w w4 : World} {rb b xk : Nat} {ao : Option Addr} {n c : Nat} {l : List Lx.Tk} {s : Lx.St} {o : Int} {vn va v' : Value} {nums : List Int} {vs : List Hv} {Fs : List Lx.Ex} {m : Nat} {z : Hv} {F : Lx.Ex} {B : Nat} (h : OpR w0 W w rb b xk ao n c l s o vn va nums vs Fs m) (hB : xk + 1 ≤ B) (hBa : ∀ q, va.ownBlock = some q → q < B) (hz : ExAt (only (frB B) w) m (hV z) (tour F)) (own : w4.ownsRow (xk + 1) 31 4 v' (vs ++ [z]).length (hCells (vs ++ [z]))) (g : w.grownBy w4 va.ownBlock) (hv : v'.ownBlock = va.ownBlock ∨ ∀ q, v'.ownBlock = some q → w.heap.size ≤ q) : OpR w0 W (w4.setCell ⟨xk, 3, none⟩ v') rb b xk ao n c l s o vn v' nums (vs ++ [z]) (Fs ++ [F]) m := by
  have hn := h.ne
  have gx : w4.grownBy (w4.setCell ⟨xk, 3, none⟩ v') (some (xk)) := grow_cell _ _ _
  have hrow : ∀ q, va.ownBlock = some q → xk + 1 ≤ q := fun q e => (h.ar.lt q e).1
  have k0 : ∀ {q : Nat} {cs : Array Value} {t : TypeId}, q < xk + 1 → w.heap[q]? = some (.cells cs t (0, 0)) → w4.heap[q]? = some (.cells cs t (0, 0)) := fun {q cs t} hq e => (g.block q (Array.getElem?_eq_some_iff.1 e).1 (fun e' => by have := hrow q e'.symm; omega)).trans e
  have R4 : Rr w0 w4 rb ao n c l s := h.rd.grown g (fun q e => by have := hrow q e; omega)
  have kx : ∀ q, xk + 1 ≤ q → va.ownBlock ≠ some q → q < w.heap.size → (decide (xk + 1 ≤ q) && decide (v'.ownBlock ≠ some q)) = true ∧ (w4.setCell ⟨xk, 3, none⟩ v').heap[q]? = w.heap[q]? := fun q q1 q2 q3 => by
    refine ⟨?_, (gx.block q (Nat.lt_of_lt_of_le q3 g.size) (fun e => by have := Option.some.inj e; omega)).trans (g.block q q3 (fun e => q2 e.symm))⟩
    simp only [Bool.and_eq_true, decide_eq_true_eq]
    refine ⟨q1, fun e => ?_⟩
    rcases hv with e' | e'
    · exact q2 (e' ▸ e)
    · have := e' q e; omega
  refine ⟨R4.grown gx (fun q e => by cases e; omega), grown_new (grown_row h.gr g (fun q e => by have := hrow q e; have := h.lo; omega)) gx (by have := h.lo; omega), h.lo, h.ne, blk_stay (k0 (by omega) h.res) gx (by omega), ?_, ?_, h.nb, own.kept gx (ne_row own (by omega)), by simp [h.len], fun i hi hi' => ?_⟩
  · rw [set_block (k0 (by omega) h.xb)]; rfl
  · have ap := own_apart h.nr h.ar (by decide)
    exact (h.nr.kept g ap).kept gx (ne_row h.nr (by omega))
  · have hl := h.len
    by_cases q : i < vs.length
    · have e1 : (vs ++ [z])[i] = vs[i] := List.getElem_append_left q
      have e2 : (Fs ++ [F])[i] = Fs[i]'(by omega) := List.getElem_append_left (by omega)
      rw [e1, e2]
      refine (h.ex i q (by omega)).sub (only_sub (fun r e lt => ?_))
      simp only [Bool.and_eq_true, decide_eq_true_eq] at e
      exact kx r e.1 e.2 lt
    · have e0 : i = vs.length := by simp at hi; omega
      subst e0
      have e1 : (vs ++ [z])[vs.length] = z := by simp
      have e2 : (Fs ++ [F])[vs.length]'hi' = F := by simp [← hl]
      rw [e1, e2]
      refine hz.sub (only_sub (fun r e lt => ?_))
      have := le_frB e
      exact kx r (by omega) (fun e => by have := hBa r e; omega) lt
/-- What it comes to. -/
theorem OpR.done {w0 W w : World} {rb b xk : Nat} {ao : Option Addr} {n c : Nat} {l : List Lx.Tk} {s : Lx.St} {o : Int} {vn va : Value} {nums : List Int} {vs : List Hv} {Fs : List Lx.Ex} {m : Nat} (h : OpR w0 W w rb b xk ao n c l s o vn va nums vs Fs m) (ho : 0 ≤ o ∧ o ≤ 255) : ∃ an nc aa ac, vn = .slice an nums.length nc ∧ va = .slice aa Fs.length ac ∧ ExAt (only (frB (xk + 1)) w) (m + 1) (.agg #[.int .u8 o, .string ⟨#[]⟩, vn, va]) (tour (.mk o [] nums Fs)) := by
  obtain ⟨an, nc, rfl, hN⟩ := own_nat h.nr h.nb
  have hl := h.len
  have hlo := h.lo
  have et : tour (.mk o [] nums Fs) = fun d => ((⟨o, ⟨#[]⟩, nums, Fs.length⟩ : Pt), d) :: flat (Fs.map tour) (d + 1) := by
    funext d; rw [tour, tours_flat]
  have har := h.ar
  rcases har.2 with ⟨rfl, h0⟩ | ⟨g, cap, cur, rfl, hB, hg, h1, h2, h3, h4⟩
  · have h0 : vs = [] := by simpa using h0
    subst h0
    have h0 : Fs = [] := List.eq_nil_of_length_eq_zero hl
    subst h0
    refine ⟨an, nc, none, 0, rfl, rfl, ⟨⟨o, ⟨#[]⟩, nums, 0⟩, an, nums.length, nc, none, 0, [], rfl, ⟨ho.1, ho.2, (show (0 : Nat) ≤ maxLen from Nat.zero_le _), hN, Nat.le_refl _, Nat.zero_le _, fun _ => ⟨rfl, rfl⟩⟩, rfl, et, fun h => absurd h (Nat.lt_irrefl _)⟩⟩
  · refine ⟨an, nc, some ⟨g, 0, none⟩, cap, rfl, by rw [hl], ?_⟩
    rw [← hl]
    refine ⟨⟨o, ⟨#[]⟩, nums, Fs.length⟩, an, nums.length, nc, some ⟨g, 0, none⟩, cap, Fs.map tour, rfl, ⟨ho.1, ho.2, (show (0 : Nat) ≤ maxLen from Nat.zero_le _), hN, by show Fs.length ≤ cap; omega, by unfold maxLen at h2; omega, fun e => by cases e⟩, by simp, et, fun h0 => ⟨g, 0, rfl, fun i hi => ?_⟩⟩
    have hi1 : i < Fs.length := by simpa using hi
    have hi2 : i < vs.length := by omega
    have gt := hCells_get vs i hi2
    have e : ∀ j, j < vs.length * 4 → (only (frB (xk + 1)) w).cell? ⟨g, 0 + j, none⟩ = (hCells vs)[j]? := fun j hj => by
      have hc := hCells_len vs
      have e1 : (hCells vs)[j]? = cur[j]? := by rw [← h4, List.getElem?_take_of_lt hj]; simp
      have e2 : ∃ u, (hCells vs)[j]? = some u := ⟨_, List.getElem?_eq_getElem (by omega)⟩
      obtain ⟨u, hu⟩ := e2
      rw [hu]
      refine only_cell.2 ⟨frB_le hB, ?_⟩
      rw [Nat.zero_add, cell_blk hg, ← e1, hu]
    have hx := (h.ex i hi2 hi1).sub (w' := only (frB (xk + 1)) w) (only_sub (fun q e _ => ⟨frB_le (by simp at e; omega), rfl⟩))
    refine ⟨.int .u8 vs[i].p.op, .string vs[i].p.nm, .slice vs[i].an vs[i].nn vs[i].nc, .slice vs[i].aa vs[i].p.k vs[i].ac, (e _ (by omega)).trans gt.1, ?_, ?_, ?_, ?_⟩
    · rw [Nat.add_assoc]; exact (e _ (by omega)).trans gt.2.1
    · rw [Nat.add_assoc]; exact (e _ (by omega)).trans gt.2.2.1
    · rw [Nat.add_assoc]; exact (e _ (by omega)).trans gt.2.2.2
    · rw [List.getElem_map]; exact hx
theorem OpR.sz {w0 W w : World} {rb b xk : Nat} {ao : Option Addr} {n c : Nat} {l : List Lx.Tk} {s : Lx.St} {o : Int} {vn va : Value} {nums : List Int} {vs : List Hv} {Fs : List Lx.Ex} {m : Nat} (h : OpR w0 W w rb b xk ao n c l s o vn va nums vs Fs m) : xk + 1 ≤ w.heap.size := (Array.getElem?_eq_some_iff.1 h.xb).1
/-- The box behind an append. -/
theorem OpR.xb4 {w0 W w w4 : World} {rb b xk : Nat} {ao : Option Addr} {n c : Nat} {l : List Lx.Tk} {s : Lx.St} {o : Int} {vn va : Value} {nums : List Int} {vs : List Hv} {Fs : List Lx.Ex} {m : Nat} {row : Option Nat} {ob : Obj} (h : OpR w0 W w rb b xk ao n c l s o vn va nums vs Fs m) (g : (w.alloc ob).grownBy w4 row) (hr : ∀ q, row = some q → xk + 1 ≤ q) : w4.heap[xk]? = some (.cells #[.int .u8 o, .string ⟨#[]⟩, vn, va] 31 (0, 0)) := by
  have hs := h.sz
  exact (g.block (xk) (by simp; omega) (fun e => by have := hr _ e.symm; omega)).trans ((al_old w ob (by omega)).trans h.xb)
/-- What the reference's expr holds on its way. -/
structure PtR (w0 W w : World) (rb b : Nat) (ao : Option Addr) (n c : Nat) (l : List Lx.Tk) (s : Lx.St) : Prop where
  rd : Rr w0 w rb ao n c l s
  gr : W.grownBy w (some rb)
  lo : W.heap.size = b
  ne : w0.heap.size ≤ b ∧ rb < b
  res : w.heap[b]? = some (.cells #[.int .u8 0, .string ⟨#[]⟩, .slice none 0 0, .slice none 0 0] 31 (0, 0))
theorem PtR.step {w0 W w w' : World} {rb b : Nat} {ao : Option Addr} {n c : Nat} {l : List Lx.Tk} {s s' : Lx.St} (h : PtR w0 W w rb b ao n c l s) (r : Rr w0 w' rb ao n c l s') (g : w.grownBy w' (some rb)) : PtR w0 W w' rb b ao n c l s' :=
  ⟨r, grown_trans h.gr g, h.lo, h.ne, blk_stay h.res g (by have := h.ne; omega)⟩
theorem PtR.keep {w0 W w w' : World} {rb b : Nat} {ao : Option Addr} {n c : Nat} {l : List Lx.Tk} {s : Lx.St} (h : PtR w0 W w rb b ao n c l s) (k : Below w.heap.size w w') : PtR w0 W w' rb b ao n c l s := h.step (h.rd.keep k) (grown_of_below k _)
theorem PtR.drew {w0 W w : World} {rb b : Nat} {ao : Option Addr} {n c : Nat} {l : List Lx.Tk} {s : Lx.St} (h : PtR w0 W w rb b ao n c l s) (k : Nat) : PtR w0 W (w.drewN k) rb b ao n c l s := h.keep (below_drewN (Below.refl _ _) k)

/-- What a call of expr does. -/
def ExprOk (w0 : World) (rb : Nat) (ao : Option Addr) (n c : Nat) (l : List Lx.Tk) (k : Nat) : Prop :=
  ∀ (W : World) (s : Lx.St), Rr w0 W rb ao n c l s → Lx.PI s → Calls Tryd.prog 32 #[.pointer (some ⟨rb, 0, none⟩), .int .i64 (41 - (k : Int))] W fun e w' => ∃ z : Hv, e = .returned (.agg #[.int .u8 z.p.op, .string z.p.nm, .slice z.an z.nn z.nc, .slice z.aa z.p.k z.ac]) ∧ Hid (Rr w0 w' rb ao n c l (Lx.partR l k s).2) ∧ Hid (W.grownBy w' (some rb)) ∧ Hid (ExAt (only (frB W.heap.size) w') (k + 1) (hV z) (tour (Lx.partR l k s).1))
theorem goX_numN {l : List Lx.Tk} {P : Lx.St → Lx.Ex × Lx.St} {N T j : Nat} {nu : List Int} {ar : List Lx.Ex} {s : Lx.St} {R : List Int × List Lx.Ex × Lx.St} (h : Lx.goX l P N (T - j) j nu ar s = R) (hj : j < T) (hn : j < N) : Lx.goX l P N (T - (j + 1)) (j + 1) (nu ++ [(Lx.number l (Lx.mk1 l j s)).1]) ar (Lx.number l (Lx.mk1 l j s)).2 = R := by
  rw [show T - j = (T - (j + 1)) + 1 by omega, Lx.goX_num hn] at h; exact h
theorem goX_argN {l : List Lx.Tk} {P : Lx.St → Lx.Ex × Lx.St} {N T j : Nat} {nu : List Int} {ar : List Lx.Ex} {s : Lx.St} {R : List Int × List Lx.Ex × Lx.St} (h : Lx.goX l P N (T - j) j nu ar s = R) (hj : j < T) (hn : ¬ j < N) : Lx.goX l P N (T - (j + 1)) (j + 1) nu (ar ++ [(P (Lx.mk1 l j s)).1]) (P (Lx.mk1 l j s)).2 = R := by
  rw [show T - j = (T - (j + 1)) + 1 by omega, Lx.goX_arg hn] at h; exact h
theorem goX_end {l : List Lx.Tk} {P : Lx.St → Lx.Ex × Lx.St} {N T j : Nat} {nu : List Int} {ar : List Lx.Ex} {s : Lx.St} {R : List Int × List Lx.Ex × Lx.St} (h : Lx.goX l P N (T - j) j nu ar s = R) (hj : T - j = 0) : R = (nu, ar, s) := by
  rw [hj] at h; exact h.symm
set_option maxRecDepth 20000 in
set_option maxHeartbeats 4000000 in
theorem rexpr_name (w0 : World) (rb : Nat) (ao : Option Addr) (n c : Nat) (l : List Lx.Tk) (hB : Lx.TkB l) (k : Nat) (hk : k ≤ 40) (IH : k ≠ 0 → ExprOk w0 rb ao n c l (k - 1)) (W : World) (s : Lx.St) (h : Rr w0 W rb ao n c l s) (hs : Lx.PI s) (ca : s.wrong = 0) (hn : Lx.isNm l s.at_ = true) (kz : k ≠ 0) (hp : s.parts < 2000) :
    Calls Tryd.prog 32 #[.pointer (some ⟨rb, 0, none⟩), .int .i64 (41 - (k : Int))] W fun e w' => ∃ z : Hv, e = .returned (.agg #[.int .u8 z.p.op, .string z.p.nm, .slice z.an z.nn z.nc, .slice z.aa z.p.k z.ac]) ∧ Hid (Rr w0 w' rb ao n c l (Lx.partR l k s).2) ∧ Hid (W.grownBy w' (some rb)) ∧ Hid (ExAt (only (frB W.heap.size) w') (k + 1) (hV z) (tour (Lx.partR l k s).1)) := by
  obtain ⟨b, hb⟩ : ∃ z, W.heap.size = z := ⟨_, rfl⟩
  obtain ⟨w1, hw1⟩ : ∃ z, W.alloc (.cells #[.int .u8 0, .string ⟨#[]⟩, .slice none 0 0, .slice none 0 0] 31) = z := ⟨_, rfl⟩
  have KA : Below W.heap.size W w1 := by rw [← hw1]; exact (Below.refl _ W).alloc (Nat.le_refl _) _
  have HI : Hid (PtR w0 W w1 rb b ao n c l s) := Lib.hid ⟨h.keep KA, grown_of_below KA _, hb, ⟨by have := h.bw.size; omega, by have := h.lt; omega⟩, by rw [← hw1, ← hb, al_new]⟩
  have HTB := Lib.hid hB
  have HIH := Lib.hid IH
  have k0 : (0 : Int) ≤ (k : Int) := by omega
  have k1 : (k : Int) ≤ 40 := by omega
  obtain ⟨c0, c1, c2, c3⟩ := HI.out.rd.cells
  obtain ⟨pt, hpt⟩ : ∃ z, s.parts = z := ⟨_, rfl⟩
  rw [hpt] at c2
  have hsI : (pt : Int) ≤ 2001 := by have := hs.1; omega
  have nl := HI.out.rd.nlt
  have n1 : (n : Int) ≤ 9223372036854775807 := by omega
  have n0 : (0 : Int) ≤ (n : Int) := by omega
  have a0 : (0 : Int) ≤ (s.at_ : Int) := by omega
  have a1 : (s.at_ : Int) ≤ 9223372036854775807 := by have := HI.out.rd.top; omega
  have hf : ¬ (Lx.isNm l s.at_ = true ∧ (k = 0 ∨ 2000 ≤ s.parts)) := fun q => q.2.elim kz (fun e => by omega)
  have HPQ : Hid (Lx.PI (Lx.nmS l s).2) := Lib.hid (Lx.nmS_PI l k s ca hs hf)
  have HPY : Hid (Lx.partR l k s = Lx.partY l k (Lx.nmS l s)) := Lib.hid (Lx.partR_Y l k s ca hf)
  have HNZ : Hid (k = 0 → (Lx.nmS l s).2.wrong ≠ 0) := Lib.hid (fun e q => by
    have hn : Lx.isNm l s.at_ = false := by
      cases e' : Lx.isNm l s.at_ with
      | false => rfl
      | true => exact absurd ⟨e', .inl e⟩ hf
    have e2 : (Lx.nmS l s).2.wrong = 110 := by unfold Lx.nmS; rw [Lx.name_wrong (s := ⟨s.at_, s.parts + 1, s.wrong⟩) hn ca]
    exact absurd (e2.symm.trans q) (by decide))
  rw [ca] at c3
  have lt : s.at_ < n := by have := Lx.isNm_lt hn; rw [HI.out.rd.tk.len] at this; exact this
  have lt' : (s.at_ : Int) < (n : Int) := by omega
  obtain ⟨tb, tp, rfl, t0, t1, t2⟩ := HI.out.rd.tok s.at_ lt
  rw [show (Lx.tkAt l s.at_).1 = 1 from of_decide_eq_true hn] at t0
  have cz1 : ¬ (40 : Int) < 41 - (k : Int) := by omega
  have cz2 : decide ((40 : Int) < 41 - (k : Int)) = false := by simpa using cz1
  have cp1 : ¬ (2000 : Int) ≤ (pt : Int) := by omega
  have cp2 : decide ((2000 : Int) ≤ (pt : Int)) = false := by simpa using cp1
  clear h KA hB IH hn kz hp hf ca t1 t2 hs
  go_enter Tryd.func32, Tryd.ntmps32
  go_upto_region 1 with fail
  clear hw1 hb
  go_upto_region 3 with fail
  go_quiet (fail)
  go_upto_region 6 with fail
  clear c0 c1 c2 c3 t0 cz1 cz2 cp1 cp2
  have HI := Lib.hid (HI.out.drew nq)
  obtain ⟨w3, hw3⟩ : ∃ z, w1.drewN nq = z := ⟨_, rfl⟩
  rw [hw3] at HI ⊢
  clear hw3
  have c2 := HI.out.rd.cells.2.2.1
  rw [hpt] at c2
  have f2 := blk_free HI.out.rd.box 2
  have HG4 := Lib.hid (grow_cell w3 ⟨rb, 2, none⟩ (.int .i64 ((pt : Int) + 1)))
  have HR4 : Hid (Rr w0 (w3.setCell ⟨rb, 2, none⟩ (.int .i64 ((pt : Int) + 1))) rb (some ⟨tb, tp, none⟩) n c l ⟨s.at_, s.parts + 1, s.wrong⟩) := Lib.hid (by
    have := HI.out.rd.part (pt + 1)
    rw [hpt]
    exact this)
  go_upto_region 7 with fail
  obtain ⟨w4, hw4⟩ : ∃ z, w3.setCell ⟨rb, 2, none⟩ (.int .i64 ((pt : Int) + 1)) = z := ⟨_, rfl⟩
  rw [hw4] at HG4 HR4 ⊢
  have HI := Lib.hid (HI.out.step HR4.out HG4.out)
  clear hw4 HR4 HG4 c2 f2
  have HN := Lib.hid (rdname_any w0 w4 rb (some ⟨tb, tp, none⟩) n c l _ HI.out.rd)
  rw [← show Lx.nmS l s = Lx.name l ⟨s.at_, s.parts + 1, s.wrong⟩ from rfl] at HN
  have HWB : Hid ((Lx.nmS l s).1.length ≤ maxLen) := Lib.hid (Lx.name_B HTB.out _)
  have HPX := Lib.hid HPY.out
  obtain ⟨⟨wd, sN⟩, hn⟩ : ∃ z, Lx.nmS l s = z := ⟨_, rfl⟩
  rw [hn] at HN HWB HPX HPQ HNZ
  clear HPY
  dsimp only at HN HWB HPX HPQ HNZ
  have HE0 := Lib.hid HPX.out
  have HPX : Hid (Lx.partR l k s = if sN.wrong = 0 ∧ Lx.opN wd ≠ 0 ∧ Lx.isMk l sN.at_ [40] = true then
      (.mk (Lx.opN wd) [] (Lx.goX l (Lx.partR l (k - 1)) (Lx.nuN (Lx.opN wd)) (Lx.nuN (Lx.opN wd) + Lx.arN (Lx.opN wd)) 0 [] [] (Lx.mark l sN [40])).1 (Lx.goX l (Lx.partR l (k - 1)) (Lx.nuN (Lx.opN wd)) (Lx.nuN (Lx.opN wd) + Lx.arN (Lx.opN wd)) 0 [] [] (Lx.mark l sN [40])).2.1, Lx.mark l (Lx.goX l (Lx.partR l (k - 1)) (Lx.nuN (Lx.opN wd)) (Lx.nuN (Lx.opN wd) + Lx.arN (Lx.opN wd)) 0 [] [] (Lx.mark l sN [40])).2.2 [41])
    else (Lx.leaf wd, sN)) := Lib.hid HE0.out
  clear HE0
  have HOP := Lib.hid (fun w5 => rop_any ⟨wd.toArray⟩ w5)
  rw [show (⟨wd.toArray⟩ : ByteArray).data.toList = wd by simp] at HOP
  have HON := Lib.hid (opN_lt wd)
  obtain ⟨on, hon⟩ : ∃ z, Lx.opN wd = z := ⟨_, rfl⟩
  rw [hon] at HOP HON HPX
  obtain ⟨bd, hbd⟩ : ∃ z : ByteArray, ⟨wd.toArray⟩ = z := ⟨_, rfl⟩
  have HBD := Lib.hid hbd
  rw [hbd] at HN HOP
  clear hn hon hbd
  go_wp2_with fail
  (with_reducible refine HN.out.mono ?_)
  rintro e w5 ⟨rfl, HR5, HG5⟩
  have HI := Lib.hid (HI.out.step HR5.out HG5.out)
  have HOP := Lib.hid (HOP.out w5)
  clear HR5 HG5 HN
  go_wp2_with fail
  (with_reducible refine HOP.out.mono ?_)
  rintro e w6 ⟨rfl, HB6⟩
  have HI := Lib.hid (HI.out.keep HB6)
  clear HOP HB6
  by_cases cb : on = 0
  · have HE : Hid (Lx.partR l k s = (Lx.leaf wd, sN)) := Lib.hid (by rw [HPX.out, if_neg (fun e => e.2.1 cb)])
    subst cb
    rw [show decide ((0 : Nat) ≠ 0) = false from rfl]
    clear HPX
    have d0 := cell_blk HI.out.res 0
    have d1 := cell_blk HI.out.res 1
    have d2 := cell_blk HI.out.res 2
    have d3 := cell_blk HI.out.res 3
    have g0 := blk_free HI.out.res 0
    have g1 := blk_free HI.out.res 1
    have g2 := blk_free HI.out.res 2
    have g3 := blk_free HI.out.res 3
    go_wp2
    obtain ⟨wf, hwf⟩ : ∃ z, put4 w6 b (.int .u8 0) (.string bd) (.slice none 0 0) (.slice none 0 0) = z := ⟨_, rfl⟩
    have hwf' := hwf
    unfold put4 at hwf'
    rw [hwf']
    have XF := put4_on HI.out.res (.int .u8 0) (.string bd) (.slice none 0 0) (.slice none 0 0)
    have g := put4_grown w6 b (.int .u8 0) (.string bd) (.slice none 0 0) (.slice none 0 0)
    rw [hwf] at g XF
    have r0 := cell_blk XF 0
    have r1 := cell_blk XF 1
    have r2 := cell_blk XF 2
    have r3 := cell_blk XF 3
    refine bodyPost_ret (v := .agg #[.int .u8 0, .string bd, .slice none 0 0, .slice none 0 0]) (by simp [results, Tryd.results32, go_sem, r0, r1, r2, r3]) rfl ⟨⟨⟨0, bd, [], 0⟩, none, 0, 0, none, 0⟩, rfl, Lib.hid ?_, Lib.hid ?_, Lib.hid ?_⟩
    · rw [HE.out]; exact HI.out.rd.grown g (fun q e => by cases e; have := HI.out.ne; omega)
    · exact grown_new HI.out.gr g (Nat.le_of_eq HI.out.lo)
    · rw [HE.out]
      have hx := ex_leaf' (only (frB W.heap.size) wf) wd HWB.out
      rw [HBD.out] at hx
      exact hx.more (by omega)
  · rw [show decide (on ≠ 0) = true from decide_eq_true cb]
    have HM := Lib.hid (ris_l w0 w6 rb (some ⟨tb, tp, none⟩) n c l sN [40] HI.out.rd)
    by_cases cc : sN.wrong = 0 ∧ Lx.isMk l sN.at_ [40] = true
    · rw [both_ cc] at HM
      have HKK : Hid (k ≠ 0) := Lib.hid (fun e => HNZ.out e cc.1)
      have HPX2 : Hid (Lx.partR l k s = (.mk on [] (Lx.goX l (Lx.partR l (k - 1)) (Lx.nuN on) (Lx.nuN on + Lx.arN on) 0 [] [] (Lx.mark l sN [40])).1 (Lx.goX l (Lx.partR l (k - 1)) (Lx.nuN on) (Lx.nuN on + Lx.arN on) 0 [] [] (Lx.mark l sN [40])).2.1, Lx.mark l (Lx.goX l (Lx.partR l (k - 1)) (Lx.nuN on) (Lx.nuN on + Lx.arN on) 0 [] [] (Lx.mark l sN [40])).2.2 [41])) := Lib.hid (by rw [HPX.out, if_pos ⟨cc.1, cb, cc.2⟩])
      clear HPX cc cb
      go_wp2_with fail
      (with_reducible refine HM.out.mono ?_)
      rintro e w7 ⟨rfl, m7, rfl⟩
      have HI := Lib.hid (HI.out.drew m7)
      obtain ⟨w8, hw8⟩ : ∃ z, w6.drewN m7 = z := ⟨_, rfl⟩
      rw [hw8] at HI ⊢
      clear hw8 HM
      have HM := Lib.hid (rmrk_l w0 w8 rb (some ⟨tb, tp, none⟩) n c l sN [40] HI.out.rd)
      have HPQ2 : Hid (Lx.PI (Lx.mark l sN [40])) := Lib.hid (HPQ.out.on (Lx.mark_on l sN [40]) (Lx.mark_parts l sN [40]))
      have HNU := Lib.hid (fun W => rnums_in on W HON.out)
      rw [nuN_eq on HON.out] at HNU
      have HAR := Lib.hid (fun W => rargs_in on W HON.out)
      rw [arN_eq on HON.out] at HAR
      have HLE := nuN_le on HON.out
      obtain ⟨N, hN⟩ : ∃ N, Lx.nuN on = N := ⟨_, rfl⟩
      obtain ⟨M, hM⟩ : ∃ N, Lx.arN on = N := ⟨_, rfl⟩
      rw [hN] at HNU HLE HPX2
      rw [hM] at HAR HLE HPX2
      obtain ⟨T, hT⟩ : ∃ T, N + M = T := ⟨_, rfl⟩
      have HTN := Lib.hid hT
      rw [hT] at HPX2
      have N3 := HLE.1
      have M3 := HLE.2
      have T5 : T ≤ 5 := by omega
      obtain ⟨s0, hs0⟩ : ∃ x, Lx.mark l sN [40] = x := ⟨_, rfl⟩
      rw [hs0] at HPX2 HM HPQ2
      obtain ⟨R, hR⟩ : ∃ R, Lx.goX l (Lx.partR l (k - 1)) N T 0 [] [] s0 = R := ⟨_, rfl⟩
      have HR : Hid (Lx.goX l (Lx.partR l (k - 1)) N (T - 0) 0 [] [] s0 = R) := Lib.hid hR
      rw [hR] at HPX2
      clear hR hs0 hM hN hT HLE
      go_wp2_with fail
      (with_reducible refine HM.out.mono ?_)
      rintro e w9 ⟨rfl, HR9, HG9⟩
      have HI := Lib.hid (HI.out.step HR9.out HG9.out)
      clear HR9 HG9 HM
      have HNU := Lib.hid (HNU.out w9)
      go_wp2_with fail
      (with_reducible refine HNU.out.mono ?_)
      rintro e w10 ⟨rfl, rfl⟩
      clear HNU
      go_upto_region 14 with fail
      obtain ⟨xk, hxk⟩ : ∃ z, w9.heap.size = z := ⟨_, rfl⟩
      obtain ⟨wx, hwx⟩ : ∃ z, w9.alloc (.cells #[.int .u8 (on : Int), .string ⟨#[]⟩, .slice none 0 0, .slice none 0 0] 31) = z := ⟨_, rfl⟩
      have KA := Lib.hid (show Below w9.heap.size w9 wx by rw [← hwx]; exact (Below.refl _ w9).alloc (Nat.le_refl _) _)
      have HX0 : Hid (OpR w0 W wx rb b xk (some ⟨tb, tp, none⟩) n c l s0 (on : Int) (.slice none 0 0) (.slice none 0 0) [] [] [] k) := Lib.hid ⟨HI.out.rd.keep KA.out, grown_trans HI.out.gr (grown_of_below KA.out _), HI.out.lo, ⟨HI.out.ne.1, HI.out.ne.2, by have := (Array.getElem?_eq_some_iff.1 HI.out.res).1; omega⟩, blk_below HI.out.res KA.out, by rw [← hwx, ← hxk, al_new], World.ownsRow_nil _ _ _ _, (fun z hz => by cases hz), World.ownsRow_nil _ _ _ _, rfl, fun i hi => absurd hi (Nat.not_lt_zero _)⟩
      rw [hwx, hxk]
      have HI := HX0
      clear hwx hxk KA HX0
      have HAR := Lib.hid (HAR.out wx)
      go_wp2_with fail
      (with_reducible refine HAR.out.mono ?_)
      rintro e w10 ⟨rfl, rfl⟩
      clear HAR
      obtain ⟨i0', hk0, hk1, hk2, hk3⟩ := info_parts' info2'
      obtain ⟨i1', hm0, hm1, hm2, hm3⟩ := info_parts' info31
      have HP := Lib.hid (HIH.out HKK.out)
      obtain ⟨HP1⟩ : Nonempty (Hid (41 - ((k - 1 : Nat) : Int) = 41 - (k : Int) + 1)) := ⟨Lib.hid (by have := HKK.out; omega)⟩
      have i0 : (0 : Int) ≤ (on : Int) := by omega
      have i1 : (on : Int) ≤ 12 := by have := HON.out; omega
      have e48 : IntKind.i64.wrap (41 - (k : Int) + 1) = 41 - (k : Int) + 1 := IntWalk.i64_in _ (by omega)
      go_upto_region 16 with fail
      go_loopw [12] (fun ii wr => ∃ (j : Nat) (nums : List Int) (st : Lx.St) (vn va : Value) (vs : List Hv) (Fs : List Lx.Ex), j ≤ T ∧ ii = .int .i64 j ∧ Hid (nums.length ≤ j ∧ vs.length ≤ j ∧ Lx.PI st ∧ (j ≤ N → vs = [])) ∧ Hid (OpR w0 W wr rb b xk (some ⟨tb, tp, none⟩) n c l st (on : Int) vn va nums vs Fs k) ∧ Hid (Lx.goX l (Lx.partR l (k - 1)) N (T - j) j nums Fs st = R)) (fun ii _ => T - (intOf ii).toNat)
      case atStart => exact ⟨0, [], s0, .slice none 0 0, .slice none 0 0, [], [], Nat.zero_le _, rfl, Lib.hid ⟨Nat.le_refl _, Nat.le_refl _, HPQ2.out, fun _ => rfl⟩, HI, HR⟩
      case round =>
        clear HI HR HPQ2 HPQ
        obtain ⟨j, nums, st, vn, va, vs, Fs, hj, rfl, HL, HI, HR⟩ := hrel
        have j0 : (0 : Int) ≤ (j : Int) := by omega
        by_cases jlt : j < T
        · have j1 : (j : Int) < (N : Int) + (M : Int) := by have := HTN.out; omega
          by_cases jN : j < N
          · have jN1 : (j : Int) < (N : Int) := by omega
            by_cases jz : j = 0
            · have jg : ¬ (0 : Int) < (j : Int) := by omega
              have jg2 : decide ((0 : Int) < (j : Int)) = false := by simpa using jg
              have HRN := Lib.hid (goX_numN HR.out jlt jN)
              have em : Lx.mk1 l j st = st := if_pos jz
              rw [em] at HRN
              clear em jz HR
              have HPI : Hid (Lx.PI st) := Lib.hid HL.out.2.2.1
              have HD := Lib.hid (HI.out.keep (Below.refl _ wr).drew)
              have HN := Lib.hid (rdnumber_any w0 wr.drew rb (some ⟨tb, tp, none⟩) n c l st HD.out.rd)
              have HZB := Lib.hid (Lx.number_B HTB.out st)
              have HPI2 : Hid (Lx.PI (Lx.number l st).2) := Lib.hid (HPI.out.on (Lx.number_on l st) (Lx.number_parts l st))
              obtain ⟨⟨z, s2⟩, hz⟩ : ∃ z, Lx.number l st = z := ⟨_, rfl⟩
              rw [hz] at HN HRN HZB HPI2
              dsimp only at HN HRN HZB HPI2
              have e2 := cell_blk HI.out.xb 2
              clear hz
              have LN : nums.length ≤ 100 := by have := HL.out.1; omega
              go_upto_region 21 with fail
              go_region_law (first
                | (go_simp; go_at_call 39; (with_reducible refine HN.out.mono ?_); rintro e w3 ⟨rfl, HR3, HG3⟩; have HI3 := Lib.hid (HD.out.step HR3.out HG3.out); clear e2; have e2 := cell_blk HI3.out.xb 2; have z3 := HI3.out.sz; have e3 : (w3.alloc (.cells #[.int .i64 z] 2)).cell? ⟨xk, 2, none⟩ = some vn := cell_blk ((al_old _ _ (by omega)).trans HI3.out.xb) 2)
                | (refine step_append_lies _ rfl (.tmp 106) (.tmp 109) 28 rfl (xk + 1) 2 i0' (.int .i64 0) 1 8 Tryd.underlying28 hk0 hk1 hk2 hk3 rfl (by decide) vn nums.length (nums.map (Value.int .i64)) rfl (HI3.out.nr.alloc _) _ 1 1 [.int .i64 z] rfl rfl (World.news_of_block (al_new _ _)) (fun u hu => by simp at hu; subst hu; rfl) (by decide) (by unfold maxLen; omega) (by omega) (Nat.le_trans HI3.out.sz (by simp)) _ rfl ?_; intro g cap w4 own gr hv hlt; have HO4 := Lib.hid own; have HG4 := Lib.hid gr; have X4 := Lib.hid (HI3.out.xb4 gr (fun q e => (HI3.out.nr.lt q e).1)); clear own gr hv hlt e2; have e2 := cell_blk X4.out 2; have f2 := blk_free X4.out 2))
              all_goals
                have HI5 := Lib.hid ((HI3.out.keep ((Below.refl _ w3).alloc (Nat.le_refl _) (.cells #[.int .i64 z] 2))).num (w4 := w4) (v' := .slice (some ⟨g, 0, none⟩) (nums.length + 1) cap) (HL.out.2.2.2 (by omega)) HZB.out (by have := HO4.out; simpa using this) HG4.out)
                obtain ⟨w5, hw5⟩ : ∃ x, w4.setCell ⟨xk, 2, none⟩ (.slice (some ⟨g, 0, none⟩) (nums.length + 1) cap) = x := ⟨_, rfl⟩
                rw [hw5] at HI5 ⊢
                clear hw5 HI3 HI HD HO4 HG4 X4 e2 f2 HR3 HG3 HN
                go_wp2
                go_roundw
                case rel => exact ⟨j + 1, nums ++ [z], s2, _, va, vs, Fs, by omega, by go_num, Lib.hid ⟨by simp; have := HL.out.1; omega, by have := HL.out.2.1; omega, HPI2.out, fun _ => HL.out.2.2.2 (by omega)⟩, HI5, HRN⟩
                case measure => simp [intOf]; omega
            · have jg : (0 : Int) < (j : Int) := by omega
              have HRN := Lib.hid (goX_numN HR.out jlt jN)
              have em : Lx.mk1 l j st = Lx.mark l st [44] := if_neg jz
              have HPI : Hid (Lx.PI (Lx.mark l st [44])) := Lib.hid (HL.out.2.2.1.on (Lx.mark_on l st [44]) (Lx.mark_parts l st [44]))
              have HM := Lib.hid (rmrk_l w0 wr rb (some ⟨tb, tp, none⟩) n c l st [44] HI.out.rd)
              rw [em] at HRN
              obtain ⟨s1, hs1⟩ : ∃ x, Lx.mark l st [44] = x := ⟨_, rfl⟩
              rw [hs1] at HRN HPI HM
              clear em jz HR hs1
              go_wp2_with fail
              (with_reducible refine HM.out.mono ?_)
              rintro e w2 ⟨rfl, HR2', HG⟩
              have HI := Lib.hid (HI.out.step HR2'.out HG.out)
              clear HM HR2' HG
              have HD := Lib.hid (HI.out.keep (Below.refl _ w2).drew)
              have HN := Lib.hid (rdnumber_any w0 w2.drew rb (some ⟨tb, tp, none⟩) n c l s1 HD.out.rd)
              have HZB := Lib.hid (Lx.number_B HTB.out s1)
              have HPI2 : Hid (Lx.PI (Lx.number l s1).2) := Lib.hid (HPI.out.on (Lx.number_on l s1) (Lx.number_parts l s1))
              obtain ⟨⟨z, s2⟩, hz⟩ : ∃ z, Lx.number l s1 = z := ⟨_, rfl⟩
              rw [hz] at HN HRN HZB HPI2
              dsimp only at HN HRN HZB HPI2
              have e2 := cell_blk HI.out.xb 2
              clear hz
              have LN : nums.length ≤ 100 := by have := HL.out.1; omega
              go_upto_region 21 with fail
              go_region_law (first
                | (go_simp; go_at_call 39; (with_reducible refine HN.out.mono ?_); rintro e w3 ⟨rfl, HR3, HG3⟩; have HI3 := Lib.hid (HD.out.step HR3.out HG3.out); clear e2; have e2 := cell_blk HI3.out.xb 2; have z3 := HI3.out.sz; have e3 : (w3.alloc (.cells #[.int .i64 z] 2)).cell? ⟨xk, 2, none⟩ = some vn := cell_blk ((al_old _ _ (by omega)).trans HI3.out.xb) 2)
                | (refine step_append_lies _ rfl (.tmp 106) (.tmp 109) 28 rfl (xk + 1) 2 i0' (.int .i64 0) 1 8 Tryd.underlying28 hk0 hk1 hk2 hk3 rfl (by decide) vn nums.length (nums.map (Value.int .i64)) rfl (HI3.out.nr.alloc _) _ 1 1 [.int .i64 z] rfl rfl (World.news_of_block (al_new _ _)) (fun u hu => by simp at hu; subst hu; rfl) (by decide) (by unfold maxLen; omega) (by omega) (Nat.le_trans HI3.out.sz (by simp)) _ rfl ?_; intro g cap w4 own gr hv hlt; have HO4 := Lib.hid own; have HG4 := Lib.hid gr; have X4 := Lib.hid (HI3.out.xb4 gr (fun q e => (HI3.out.nr.lt q e).1)); clear own gr hv hlt e2; have e2 := cell_blk X4.out 2; have f2 := blk_free X4.out 2))
              all_goals
                have HI5 := Lib.hid ((HI3.out.keep ((Below.refl _ w3).alloc (Nat.le_refl _) (.cells #[.int .i64 z] 2))).num (w4 := w4) (v' := .slice (some ⟨g, 0, none⟩) (nums.length + 1) cap) (HL.out.2.2.2 (by omega)) HZB.out (by have := HO4.out; simpa using this) HG4.out)
                obtain ⟨w5, hw5⟩ : ∃ x, w4.setCell ⟨xk, 2, none⟩ (.slice (some ⟨g, 0, none⟩) (nums.length + 1) cap) = x := ⟨_, rfl⟩
                rw [hw5] at HI5 ⊢
                clear hw5 HI3 HI HD HO4 HG4 X4 e2 f2 HR3 HG3 HN
                go_wp2
                go_roundw
                case rel => exact ⟨j + 1, nums ++ [z], s2, _, va, vs, Fs, by omega, by go_num, Lib.hid ⟨by simp; have := HL.out.1; omega, by have := HL.out.2.1; omega, HPI2.out, fun _ => HL.out.2.2.2 (by omega)⟩, HI5, HRN⟩
                case measure => simp [intOf]; omega
          · have jN1 : ¬ (j : Int) < (N : Int) := by omega
            have jN2 : decide ((j : Int) < (N : Int)) = false := by simpa using jN1
            by_cases jz : j = 0
            · have jg : ¬ (0 : Int) < (j : Int) := by omega
              have jg2 : decide ((0 : Int) < (j : Int)) = false := by simpa using jg
              have HRN := Lib.hid (goX_argN HR.out jlt jN)
              have em : Lx.mk1 l j st = st := if_pos jz
              rw [em] at HRN
              clear em jz HR
              have HPI : Hid (Lx.PI st) := Lib.hid HL.out.2.2.1
              have HD := Lib.hid (HI.out.keep (Below.refl _ wr).drew)
              have HN := Lib.hid (HP.out wr.drew st HD.out.rd HPI.out)
              rw [HP1.out] at HN
              have HPI2 : Hid (Lx.PI (Lx.partR l (k - 1) st).2) := Lib.hid (Lx.partR_PI l (k - 1) st HPI.out)
              have HBa : Hid (∀ q, va.ownBlock = some q → q < wr.drew.heap.size) := Lib.hid (fun q e => (HD.out.ar.lt q e).2)
              have HBs : Hid (xk + 1 ≤ wr.drew.heap.size) := Lib.hid HD.out.sz
              obtain ⟨⟨F, s2⟩, hz⟩ : ∃ z, Lx.partR l (k - 1) st = z := ⟨_, rfl⟩
              rw [hz] at HN HRN HPI2
              dsimp only at HN HRN HPI2
              rw [show k - 1 + 1 = k by have := HKK.out; omega] at HN
              have e2 := cell_blk HI.out.xb 3
              clear hz
              have LV : vs.length ≤ 100 := by have := HL.out.2.1; omega
              go_upto_region 22 with fail
              go_region_law (first
                | (go_simp; go_at_call 32; (with_reducible refine HN.out.mono ?_); rintro e w3 ⟨⟨⟨zo, znm, znu, zk⟩, zan, znn, znc, zaa, zac⟩, rfl, HR3, HG3, HX3⟩; have HI3 := Lib.hid (HD.out.step HR3.out HG3.out); clear e2; have e2 := cell_blk HI3.out.xb 3; have z3 := HI3.out.sz; have e3 : (w3.alloc (.cells #[.int .u8 zo, .string znm, .slice zan znn znc, .slice zaa zk zac] 31)).cell? ⟨xk, 3, none⟩ = some va := cell_blk ((al_old _ _ (by omega)).trans HI3.out.xb) 3)
                | (refine step_append_lies _ rfl (.tmp 113) (.tmp 118) 29 rfl (xk + 1) 31 i1' _ 4 72 Tryd.underlying29 hm0 hm1 hm2 hm3 rfl (by decide) va vs.length (hCells vs) rfl (HI3.out.ar.alloc _) _ 1 1 (hC ⟨⟨zo, znm, znu, zk⟩, zan, znn, znc, zaa, zac⟩) rfl rfl (World.news_of_block (al_new _ _)) (fun u hu => hCells_one [⟨⟨zo, znm, znu, zk⟩, zan, znn, znc, zaa, zac⟩] u (by simpa [hCells] using hu)) (by decide) (by unfold maxLen; omega) (by omega) (Nat.le_trans HI3.out.sz (by simp)) _ rfl ?_; intro g cap w4 own gr hv hlt; have HO4 := Lib.hid own; have HG4 := Lib.hid gr; have HV4 := Lib.hid hv; have X4 := Lib.hid (HI3.out.xb4 gr (fun q e => (HI3.out.ar.lt q e).1)); clear own gr hv hlt e2; have e2 := cell_blk X4.out 3; have f2 := blk_free X4.out 3))
              all_goals
                have HI5 := Lib.hid ((HI3.out.keep ((Below.refl _ w3).alloc (Nat.le_refl _) (.cells #[.int .u8 zo, .string znm, .slice zan znn znc, .slice zaa zk zac] 31))).arg (w4 := w4) (v' := .slice (some ⟨g, 0, none⟩) (vs.length + 1) cap) (z := ⟨⟨zo, znm, znu, zk⟩, zan, znn, znc, zaa, zac⟩) (F := F) (B := wr.drew.heap.size) HBs.out HBa.out (HX3.out.sub (only_sub (fun q e lt => ⟨e, al_old _ _ lt⟩))) (by have := HO4.out; simpa [hCells_app, hCells] using this) HG4.out (by rcases HV4.out with e | e; exact .inl e.symm; exact .inr (fun q e' => by have e3' : g = q := Option.some.inj e'; omega)))
                obtain ⟨w5, hw5⟩ : ∃ x, w4.setCell ⟨xk, 3, none⟩ (.slice (some ⟨g, 0, none⟩) (vs.length + 1) cap) = x := ⟨_, rfl⟩
                rw [hw5] at HI5 ⊢
                clear hw5 HI3 HI HD HO4 HG4 X4 e2 f2 HR3 HG3 HN HX3 HV4
                go_wp2
                go_roundw
                case rel => exact ⟨j + 1, nums, s2, vn, _, _, _, by omega, by go_num, Lib.hid ⟨by have := HL.out.1; omega, by simp; have := HL.out.2.1; omega, HPI2.out, fun _ => absurd jN (by omega)⟩, HI5, HRN⟩
                case measure => simp [intOf]; omega
            · have jg : (0 : Int) < (j : Int) := by omega
              have HRN := Lib.hid (goX_argN HR.out jlt jN)
              have em : Lx.mk1 l j st = Lx.mark l st [44] := if_neg jz
              have HPI : Hid (Lx.PI (Lx.mark l st [44])) := Lib.hid (HL.out.2.2.1.on (Lx.mark_on l st [44]) (Lx.mark_parts l st [44]))
              have HM := Lib.hid (rmrk_l w0 wr rb (some ⟨tb, tp, none⟩) n c l st [44] HI.out.rd)
              rw [em] at HRN
              obtain ⟨s1, hs1⟩ : ∃ x, Lx.mark l st [44] = x := ⟨_, rfl⟩
              rw [hs1] at HRN HPI HM
              clear em jz HR hs1
              go_wp2_with fail
              (with_reducible refine HM.out.mono ?_)
              rintro e w2 ⟨rfl, HR2', HG⟩
              have HI := Lib.hid (HI.out.step HR2'.out HG.out)
              clear HM HR2' HG
              have HD := Lib.hid (HI.out.keep (Below.refl _ w2).drew)
              have HN := Lib.hid (HP.out w2.drew s1 HD.out.rd HPI.out)
              rw [HP1.out] at HN
              have HPI2 : Hid (Lx.PI (Lx.partR l (k - 1) s1).2) := Lib.hid (Lx.partR_PI l (k - 1) s1 HPI.out)
              have HBa : Hid (∀ q, va.ownBlock = some q → q < w2.drew.heap.size) := Lib.hid (fun q e => (HD.out.ar.lt q e).2)
              have HBs : Hid (xk + 1 ≤ w2.drew.heap.size) := Lib.hid HD.out.sz
              obtain ⟨⟨F, s2⟩, hz⟩ : ∃ z, Lx.partR l (k - 1) s1 = z := ⟨_, rfl⟩
              rw [hz] at HN HRN HPI2
              dsimp only at HN HRN HPI2
              rw [show k - 1 + 1 = k by have := HKK.out; omega] at HN
              have e2 := cell_blk HI.out.xb 3
              clear hz
              have LV : vs.length ≤ 100 := by have := HL.out.2.1; omega
              go_upto_region 22 with fail
              go_region_law (first
                | (go_simp; go_at_call 32; (with_reducible refine HN.out.mono ?_); rintro e w3 ⟨⟨⟨zo, znm, znu, zk⟩, zan, znn, znc, zaa, zac⟩, rfl, HR3, HG3, HX3⟩; have HI3 := Lib.hid (HD.out.step HR3.out HG3.out); clear e2; have e2 := cell_blk HI3.out.xb 3; have z3 := HI3.out.sz; have e3 : (w3.alloc (.cells #[.int .u8 zo, .string znm, .slice zan znn znc, .slice zaa zk zac] 31)).cell? ⟨xk, 3, none⟩ = some va := cell_blk ((al_old _ _ (by omega)).trans HI3.out.xb) 3)
                | (refine step_append_lies _ rfl (.tmp 113) (.tmp 118) 29 rfl (xk + 1) 31 i1' _ 4 72 Tryd.underlying29 hm0 hm1 hm2 hm3 rfl (by decide) va vs.length (hCells vs) rfl (HI3.out.ar.alloc _) _ 1 1 (hC ⟨⟨zo, znm, znu, zk⟩, zan, znn, znc, zaa, zac⟩) rfl rfl (World.news_of_block (al_new _ _)) (fun u hu => hCells_one [⟨⟨zo, znm, znu, zk⟩, zan, znn, znc, zaa, zac⟩] u (by simpa [hCells] using hu)) (by decide) (by unfold maxLen; omega) (by omega) (Nat.le_trans HI3.out.sz (by simp)) _ rfl ?_; intro g cap w4 own gr hv hlt; have HO4 := Lib.hid own; have HG4 := Lib.hid gr; have HV4 := Lib.hid hv; have X4 := Lib.hid (HI3.out.xb4 gr (fun q e => (HI3.out.ar.lt q e).1)); clear own gr hv hlt e2; have e2 := cell_blk X4.out 3; have f2 := blk_free X4.out 3))
              all_goals
                have HI5 := Lib.hid ((HI3.out.keep ((Below.refl _ w3).alloc (Nat.le_refl _) (.cells #[.int .u8 zo, .string znm, .slice zan znn znc, .slice zaa zk zac] 31))).arg (w4 := w4) (v' := .slice (some ⟨g, 0, none⟩) (vs.length + 1) cap) (z := ⟨⟨zo, znm, znu, zk⟩, zan, znn, znc, zaa, zac⟩) (F := F) (B := w2.drew.heap.size) HBs.out HBa.out (HX3.out.sub (only_sub (fun q e lt => ⟨e, al_old _ _ lt⟩))) (by have := HO4.out; simpa [hCells_app, hCells] using this) HG4.out (by rcases HV4.out with e | e; exact .inl e.symm; exact .inr (fun q e' => by have e3' : g = q := Option.some.inj e'; omega)))
                obtain ⟨w5, hw5⟩ : ∃ x, w4.setCell ⟨xk, 3, none⟩ (.slice (some ⟨g, 0, none⟩) (vs.length + 1) cap) = x := ⟨_, rfl⟩
                rw [hw5] at HI5 ⊢
                clear hw5 HI3 HI HD HO4 HG4 X4 e2 f2 HR3 HG3 HN HX3 HV4
                go_wp2
                go_roundw
                case rel => exact ⟨j + 1, nums, s2, vn, _, _, _, by omega, by go_num, Lib.hid ⟨by have := HL.out.1; omega, by simp; have := HL.out.2.1; omega, HPI2.out, fun _ => absurd jN (by omega)⟩, HI5, HRN⟩
                case measure => simp [intOf]; omega
        · obtain rfl : j = T := by omega
          have e := goX_end HR.out (by omega)
          subst e
          clear HR
          have jl : ¬ (j : Int) < (N : Int) + (M : Int) := by have := HTN.out; omega
          have HM := Lib.hid (rmrk_l w0 wr rb (some ⟨tb, tp, none⟩) n c l st [41] HI.out.rd)
          go_wp2_with fail
          (with_reducible refine HM.out.mono ?_)
          rintro e w2 ⟨rfl, HR2', HG⟩
          have HI := Lib.hid (HI.out.step HR2'.out HG.out)
          obtain ⟨an, nc, aa, ac, rfl, rfl, hx⟩ := HI.out.done ⟨i0, by omega⟩
          have HX := Lib.hid hx
          have e0 := cell_blk HI.out.xb 0
          have e1 := cell_blk HI.out.xb 1
          have e2 := cell_blk HI.out.xb 2
          have e3 := cell_blk HI.out.xb 3
          have g0 := cell_blk HI.out.res 0
          have g1 := cell_blk HI.out.res 1
          have g2 := cell_blk HI.out.res 2
          have g3 := cell_blk HI.out.res 3
          have f0 := blk_free HI.out.res 0
          have f1 := blk_free HI.out.res 1
          have f2 := blk_free HI.out.res 2
          have f3 := blk_free HI.out.res 3
          clear hx HM HR2' HG
          go_wp2
          obtain ⟨wf, hwf⟩ : ∃ z, put4 w2 b (.int .u8 (on : Int)) (.string ⟨#[]⟩) (.slice an nums.length nc) (.slice aa Fs.length ac) = z := ⟨_, rfl⟩
          have hwf' := hwf
          unfold put4 at hwf'
          rw [hwf']
          have XF := put4_on HI.out.res (.int .u8 (on : Int)) (.string ⟨#[]⟩) (.slice an nums.length nc) (.slice aa Fs.length ac)
          have g := put4_grown w2 b (.int .u8 (on : Int)) (.string ⟨#[]⟩) (.slice an nums.length nc) (.slice aa Fs.length ac)
          rw [hwf] at g XF
          have r0 := cell_blk XF 0
          have r1 := cell_blk XF 1
          have r2 := cell_blk XF 2
          have r3 := cell_blk XF 3
          refine bodyPost_ret (v := .agg #[.int .u8 (on : Int), .string ⟨#[]⟩, .slice an nums.length nc, .slice aa Fs.length ac]) (by simp [results, Tryd.results32, go_sem, r0, r1, r2, r3]) rfl ⟨⟨⟨(on : Int), ⟨#[]⟩, nums, Fs.length⟩, an, nums.length, nc, aa, ac⟩, rfl, Lib.hid ?_, Lib.hid ?_, Lib.hid ?_⟩
          · rw [HPX2.out]; exact HI.out.rd.grown g (fun q e => by cases e; have := HI.out.ne; omega)
          · exact grown_new HI.out.gr g (Nat.le_of_eq HI.out.lo)
          · rw [HPX2.out]
            refine HX.out.sub (only_sub (fun q e lt => ⟨frB_le (by have := le_frB e; have := HI.out.lo; have := HI.out.ne; omega), g.block q lt (fun e' => ?_)⟩))
            have := le_frB e
            have := HI.out.ne
            cases e'
            omega
    · rw [not_both cc] at HM
      have HE : Hid (Lx.partR l k s = (Lx.leaf wd, sN)) := Lib.hid (by rw [HPX.out, if_neg (fun e => cc ⟨e.1, e.2.2⟩)])
      clear HPX cc cb
      go_wp2_with fail
      (with_reducible refine HM.out.mono ?_)
      rintro e w7 ⟨rfl, m7, rfl⟩
      have HI := Lib.hid (HI.out.drew m7)
      obtain ⟨w8, hw8⟩ : ∃ z, w6.drewN m7 = z := ⟨_, rfl⟩
      rw [hw8] at HI ⊢
      clear hw8 HM
      have d0 := cell_blk HI.out.res 0
      have d1 := cell_blk HI.out.res 1
      have d2 := cell_blk HI.out.res 2
      have d3 := cell_blk HI.out.res 3
      have g0 := blk_free HI.out.res 0
      have g1 := blk_free HI.out.res 1
      have g2 := blk_free HI.out.res 2
      have g3 := blk_free HI.out.res 3
      go_wp2
      obtain ⟨wf, hwf⟩ : ∃ z, put4 w8 b (.int .u8 0) (.string bd) (.slice none 0 0) (.slice none 0 0) = z := ⟨_, rfl⟩
      have hwf' := hwf
      unfold put4 at hwf'
      rw [hwf']
      have XF := put4_on HI.out.res (.int .u8 0) (.string bd) (.slice none 0 0) (.slice none 0 0)
      have g := put4_grown w8 b (.int .u8 0) (.string bd) (.slice none 0 0) (.slice none 0 0)
      rw [hwf] at g XF
      have r0 := cell_blk XF 0
      have r1 := cell_blk XF 1
      have r2 := cell_blk XF 2
      have r3 := cell_blk XF 3
      refine bodyPost_ret (v := .agg #[.int .u8 0, .string bd, .slice none 0 0, .slice none 0 0]) (by simp [results, Tryd.results32, go_sem, r0, r1, r2, r3]) rfl ⟨⟨⟨0, bd, [], 0⟩, none, 0, 0, none, 0⟩, rfl, Lib.hid ?_, Lib.hid ?_, Lib.hid ?_⟩
      · rw [HE.out]; exact HI.out.rd.grown g (fun q e => by cases e; have := HI.out.ne; omega)
      · exact grown_new HI.out.gr g (Nat.le_of_eq HI.out.lo)
      · rw [HE.out]
        have hx := ex_leaf' (only (frB W.heap.size) wf) wd HWB.out
        rw [HBD.out] at hx
        exact hx.more (by omega)
end Go.Proofs.YtllhcpkpbipjlaaDoor
