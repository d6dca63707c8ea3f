/- Q2, Q3 in one. -/
import Derived.Test.YtllhcpkpbipjlaaDoorKi
import Derived.Test.YtllhcpkpbipjlaaDoorKj
namespace Go.Proofs.YtllhcpkpbipjlaaDoor
set_option linter.unusedVariables false
set_option linter.unusedSimpArgs false
open Go.ChangeShapes Go.WideShapes Go.ChangeAt Go.RowKit

namespace Lx
/-! How many parts were begun. -/
theorem mark_parts (l : List Tk) (s : St) (m : List UInt8) : (mark l s m).parts = s.parts := take_parts l s _
theorem name_parts (l : List Tk) (s : St) : (name l s).2.parts = s.parts := take_parts l s _
theorem number_parts (l : List Tk) (s : St) : (number l s).2.parts = s.parts := take_parts l s _
/-- The parts stay below the limit. -/
def PI (s : St) : Prop := s.parts ≤ 2001 ∧ (s.wrong = 0 → s.parts ≤ 2000)
theorem PI.on {l : List Tk} {s t : St} (h : PI s) (o : On l s t) (p : t.parts = s.parts) : PI t := by
  refine ⟨by rw [p]; exact h.1, fun q => ?_⟩
  rw [p]
  refine h.2 ?_
  by_cases z : s.wrong = 0
  · exact z
  · exact absurd ((o.stay z).2.symm.trans q) z
theorem numsL_parts (l : List Tk) : ∀ (n : Nat) (b : List UInt8) (acc : List Int) (s : St), (numsL l n b acc s).2.2.parts = s.parts
  | 0, b, acc, s => rfl
  | n + 1, b, acc, s => (numsL_parts l n _ _ _).trans ((number_parts l _).trans (mark_parts l s b))
theorem argsL_PI (l : List Tk) (P : St → Ex × St) (hP : ∀ s, s.parts ≤ 2000 → PI (P s).2) : ∀ (n : Nat) (b : List UInt8) (acc : List Ex) (s : St), PI s → PI (argsL l P n b acc s).2.2
  | 0, b, acc, s, h => h
  | n + 1, b, acc, s, h => by
    have h1 := h.on (mark_on l s b) (mark_parts l s b)
    unfold argsL
    split
    · rename_i z; exact argsL_PI l P hP n _ _ _ (hP _ (h1.2 z))
    · exact argsL_PI l P hP n _ _ _ h1
theorem begun_name (l : List Tk) (z : Bool) (s : St) (h : s.parts ≤ 2000) : PI (name l (begun l z s)).2 := by
  refine ⟨by rw [name_parts]; show s.parts + 1 ≤ 2001; omega, fun q => ?_⟩
  rw [name_parts]
  show s.parts + 1 ≤ 2000
  have hb : (begun l z s).wrong = 0 := by
    by_cases y : (begun l z s).wrong = 0
    · exact y
    · exact absurd (((name_on l (begun l z s)).stay y).2.symm.trans q) y
  by_cases y : s.parts = 2000
  · exfalso
    unfold name take at q
    rw [if_pos hb] at q
    by_cases k : isNm l s.at_ = true
    · unfold begun at hb
      dsimp only at hb
      by_cases w : s.wrong = 0
      · rw [if_pos ⟨w, k, .inr y⟩] at hb; exact absurd hb (by decide)
      · rw [if_neg (fun e => w e.1)] at hb; exact w hb
    · rw [if_neg (by exact k)] at q; exact absurd (show (110 : Int) = 0 from q) (by decide)
  · omega
theorem part_PI (l : List Tk) : ∀ (k : Nat) (s : St), s.parts ≤ 2000 → PI (part l k s).2
  | 0, s, h => begun_name l true s h
  | k + 1, s, h => by
    have h1 := begun_name l false s h
    unfold part
    split
    · refine PI.on (l := l) ?_ (mark_on l _ _) (mark_parts l _ _)
      refine argsL_PI l _ (fun s q => part_PI l k s q) _ _ _ _ ?_
      exact PI.on (l := l) h1 (numsL_on l _ _ _ _) (numsL_parts l _ _ _ _)
    · exact h1
/-- What tokens may be. -/
def TkB (l : List Tk) : Prop := ∀ t ∈ l, (0 ≤ t.1 ∧ t.1 ≤ 255) ∧ t.2.1.length ≤ maxLen ∧ -9223372036854775808 ≤ t.2.2 ∧ t.2.2 ≤ 9223372036854775807
theorem tkAt_B {l : List Tk} (h : TkB l) (i : Nat) : (0 ≤ (tkAt l i).1 ∧ (tkAt l i).1 ≤ 255) ∧ (tkAt l i).2.1.length ≤ maxLen ∧ -9223372036854775808 ≤ (tkAt l i).2.2 ∧ (tkAt l i).2.2 ≤ 9223372036854775807 := by
  unfold tkAt
  rw [List.getD_eq_getElem?_getD]
  cases e : l[i]? with
  | none => exact ⟨⟨by decide, by decide⟩, Nat.zero_le _, by decide, by decide⟩
  | some t => exact h t (List.mem_of_getElem? e)
theorem take_B {l : List Tk} (h : TkB l) (s : St) (b : Bool) : (take l s b).1.2.1.length ≤ maxLen ∧ -9223372036854775808 ≤ (take l s b).1.2.2 ∧ (take l s b).1.2.2 ≤ 9223372036854775807 := by
  unfold take
  split
  · split
    · exact (tkAt_B h _).2
    · exact ⟨Nat.zero_le _, (by decide : (-9223372036854775808 : Int) ≤ 0), (by decide : (0 : Int) ≤ 9223372036854775807)⟩
  · exact ⟨Nat.zero_le _, (by decide : (-9223372036854775808 : Int) ≤ 0), (by decide : (0 : Int) ≤ 9223372036854775807)⟩
theorem number_B {l : List Tk} (h : TkB l) (s : St) : -9223372036854775808 ≤ (number l s).1 ∧ (number l s).1 ≤ 9223372036854775807 := (take_B h s _).2
theorem name_B {l : List Tk} (h : TkB l) (s : St) : (name l s).1.length ≤ maxLen := (take_B h s _).1
end Lx
/-! Tours. -/
mutual
def tour : Lx.Ex → Int → List (Pt × Int)
  | .mk o nm nu xs, d => ((⟨o, ⟨nm.toArray⟩, nu, xs.length⟩ : Pt), d) :: tours xs (d + 1)
def tours : List Lx.Ex → Int → List (Pt × Int)
  | [], _ => []
  | x :: r, d => tour x d ++ tours r d
end
theorem tours_flat : ∀ (xs : List Lx.Ex) (d : Int), tours xs d = flat (xs.map tour) d
  | [], d => by simp [tours, flat]
  | x :: r, d => by rw [tours, tours_flat r d]; simp [flat]
/-! Memory without some blocks. -/
/-- The world with the blocks of a kind alone. -/
def only (p : Nat → Bool) (w : World) : World := { w with heap := w.heap.mapIdx (fun i o => if p i = true then o else .cells #[] 0 (0, 0)) }
theorem only_cell {p : Nat → Bool} {w : World} {a : Addr} {v : Value} : (only p w).cell? a = some v ↔ p a.block = true ∧ w.cell? a = some v := by
  unfold World.cell? only
  simp only [Array.getElem?_mapIdx]
  cases h : w.heap[a.block]? with
  | none => simp
  | some o =>
    by_cases q : p a.block = true
    · simp [q]
    · simp [q]
/-- What is read in the one is read in the other. -/
def Sub (w w' : World) : Prop := ∀ a v, w.cell? a = some v → w'.cell? a = some v
theorem Sub.trans {a b c : World} (h : Sub a b) (k : Sub b c) : Sub a c := fun x v e => k x v (h x v e)
theorem only_sub {p p' : Nat → Bool} {w w' : World} (h : ∀ q, p q = true → q < w.heap.size → p' q = true ∧ w'.heap[q]? = w.heap[q]?) : Sub (only p w) (only p' w') := fun a v e => by
  obtain ⟨e1, e2⟩ := only_cell.1 e
  obtain ⟨k1, k2⟩ := h _ e1 (cell_here e2)
  refine only_cell.2 ⟨k1, ?_⟩
  unfold World.cell? at e2 ⊢
  rw [k2]; exact e2
theorem only_all {p : Nat → Bool} {w : World} : Sub (only p w) w := fun a v e => (only_cell.1 e).2
theorem NAt.sub {w w' : World} {ao : Option Addr} {n c : Nat} {l : List Int} (h : NAt w ao n c l) (k : Sub w w') : NAt w' ao n c l :=
  ⟨h.len, h.le, h.top, h.bare, fun h0 => by
    obtain ⟨b, p, e, hc⟩ := h.here h0
    exact ⟨b, p, e, fun i hi => ⟨k _ _ (hc i hi).1, (hc i hi).2⟩⟩⟩
theorem HdAt.sub {w w' : World} {p : Pt} {an aa : Option Addr} {nn nc ac : Nat} (h : HdAt w p an nn nc aa ac) (k : Sub w w') : HdAt w' p an nn nc aa ac := ⟨h.o1, h.o2, h.nmle, h.nums.sub k, h.le, h.top, h.bare⟩
theorem ExAt.sub {w w' : World} (k : Sub w w') : ∀ {n : Nat} {v : Value} {F : Tour}, ExAt w n v F → ExAt w' n v F
  | 0, _, _, h => h
  | n + 1, v, F, h => by
    obtain ⟨p, an, nn, nc, aa, ac, Fs, e1, hh, e2, e3, hc⟩ := h
    refine ⟨p, an, nn, nc, aa, ac, Fs, e1, hh.sub k, e2, e3, fun h0 => ?_⟩
    obtain ⟨b, q, e, hx⟩ := hc h0
    refine ⟨b, q, e, fun i hi => ?_⟩
    obtain ⟨x0, x1, x2, x3, c0, c1, c2, c3, hr⟩ := hx i hi
    exact ⟨x0, x1, x2, x3, k _ _ c0, k _ _ c1, k _ _ c2, k _ _ c3, hr.sub k⟩
/-- The blocks from a number on. -/
def frB (B : Nat) : Nat → Bool := fun q => decide (B ≤ q)
theorem frB_le {B q : Nat} (h : B ≤ q) : frB B q = true := decide_eq_true h
theorem le_frB {B q : Nat} (h : frB B q = true) : B ≤ q := of_decide_eq_true h
theorem ex_leaf' (p : World) (w : List UInt8) (h : w.length ≤ maxLen) : ExAt p 1 (.agg #[.int .u8 0, .string ⟨w.toArray⟩, .slice none 0 0, .slice none 0 0]) (tour (Lx.leaf w)) := by
  have e : tour (Lx.leaf w) = fun d => [((⟨0, ⟨w.toArray⟩, [], 0⟩ : Pt), d)] := by funext d; simp [Lx.leaf, tour, tours]
  rw [e]
  exact ex_name p 0 ⟨w.toArray⟩ (by decide) (by decide) (by rw [Lib.size_eq]; simpa using h)

theorem own_kind' {w : World} {B e s n : Nat} {v : Value} {xs : List Value} (h : w.ownsRow B e s v n xs) {g : Nat} (hg : v.ownBlock = some g) : ∃ cur, w.heap[g]? = some (.cells cur e (0, 0)) := by
  rcases h.2 with ⟨rfl, _⟩ | ⟨g', cap, cur, rfl, _, hgg, _⟩
  · simp [Value.ownBlock] at hg
  · simp [Value.ownBlock] at hg
    subst hg
    exact ⟨cur, hgg⟩
theorem own_apart {w : World} {B e s n B' e' s' n' : Nat} {v v' : Value} {xs xs' : List Value} (h : w.ownsRow B e s v n xs) (h' : w.ownsRow B' e' s' v' n' xs') (ne : e ≠ e') : v.ownBlock = none ∨ v.ownBlock ≠ v'.ownBlock := by
  cases hb : v.ownBlock with
  | none => exact .inl rfl
  | some g =>
    refine .inr (fun e1 => ?_)
    obtain ⟨c1, k1⟩ := own_kind' h hb
    obtain ⟨c2, k2⟩ := own_kind' h' e1.symm
    rw [k1] at k2
    injection k2 with k2
    injection k2 with _ k2
    exact ne k2
/-- The head of a part, as a value. -/
structure Hv where
  p : Pt
  an : Option Addr
  nn : Nat
  nc : Nat
  aa : Option Addr
  ac : Nat
def hV (h : Hv) : Value := pv h.p h.an h.nn h.nc h.aa h.ac
def hC (h : Hv) : List Value := [.int .u8 h.p.op, .string h.p.nm, .slice h.an h.nn h.nc, .slice h.aa h.p.k h.ac]
def hCells (l : List Hv) : List Value := (l.map hC).flatten
theorem hCells_app (l k : List Hv) : hCells (l ++ k) = hCells l ++ hCells k := by simp [hCells]
theorem hCells_len : ∀ (l : List Hv), (hCells l).length = l.length * 4
  | [] => rfl
  | x :: r => by have := hCells_len r; simp [hCells, hC] at this ⊢; omega
theorem hCells_one (l : List Hv) : ∀ u ∈ hCells l, u.oneCell' = true := by
  intro u hu
  obtain ⟨x, hx, hu⟩ := List.mem_flatten.1 hu
  obtain ⟨h, _, rfl⟩ := List.mem_map.1 hx
  simp [hC] at hu
  rcases hu with rfl | rfl | rfl | rfl <;> rfl
theorem hCells_get : ∀ (l : List Hv) (i : Nat) (h : i < l.length), (hCells l)[i * 4]? = some (.int .u8 l[i].p.op) ∧ (hCells l)[i * 4 + 1]? = some (.string l[i].p.nm) ∧ (hCells l)[i * 4 + 2]? = some (.slice l[i].an l[i].nn l[i].nc) ∧ (hCells l)[i * 4 + 3]? = some (.slice l[i].aa l[i].p.k l[i].ac)
  | t :: r, 0, _ => ⟨rfl, rfl, rfl, rfl⟩
  | t :: r, i + 1, h => by
    have ih := hCells_get r i (by simpa using h)
    have e : ∀ j, (hCells (t :: r))[j + 4]? = (hCells r)[j]? := fun j => rfl
    refine ⟨?_, ?_, ?_, ?_⟩
    · rw [show (i + 1) * 4 = i * 4 + 4 by omega, e]; exact ih.1
    · rw [show (i + 1) * 4 + 1 = i * 4 + 1 + 4 by omega, e]; exact ih.2.1
    · rw [show (i + 1) * 4 + 2 = i * 4 + 2 + 4 by omega, e]; exact ih.2.2.1
    · rw [show (i + 1) * 4 + 3 = i * 4 + 3 + 4 by omega, e]; exact ih.2.2.2
theorem info2' : (Tryd.prog.info? 2).map (fun i => (i.zero, i.size, i.bytes)) = some (some (.int .i64 0), 1, 8) := by kernel_rfl
theorem info31 : (Tryd.prog.info? 31).map (fun i => (i.zero, i.size, i.bytes)) = some (some (.agg #[.int .u8 0, .string ⟨#[]⟩, .slice none 0 0, .slice none 0 0]), 4, 72) := by kernel_rfl
/-- A number appended to a row of the call's own. -/
theorem appN {ops : Array Oper} {rest : List Oper} {o : Oper} {a : Act} {Q : Exit → Act → World → Prop} (hgd : o.guard = none) (s x : Operand)
    (ho : o.op = .call { callee := .builtin .append, args := #[s, x], argTypes := #[28, 28] }) (base : Nat) (w : World) (v : Value) (l : List Int) (hs : a.eval s = v) (hown : w.ownsRow base 2 1 v l.length (l.map (Value.int .i64))) (b m : Nat) (z : Int) (hx : a.eval x = .slice (some ⟨b, 0, none⟩) 1 m) (hb : w.heap[b]? = some (.cells #[.int .i64 z] 2 (0, 0))) (hn : l.length ≤ 100000) (hbase : base ≤ w.heap.size)
    (h : ∀ v' w', w'.ownsRow base 2 1 v' (l ++ [z]).length ((l ++ [z]).map (Value.int .i64)) → w.grownBy w' v.ownBlock → (v'.ownBlock = v.ownBlock ∨ v'.ownBlock = some w.heap.size) → wpList Tryd.prog ops Q rest (a.put o.dst v') w') : wpList Tryd.prog ops Q (o :: rest) a w := by
  obtain ⟨k0, hk, hkz0, hkz1, hkz2⟩ := info_parts' info2'
  refine wpList_append_own_at _ hgd s x 28 ho base 2 k0 (.int .i64 0) 1 8 Tryd.underlying28 hk hkz0 hkz1 hkz2 rfl (by decide) v l.length (l.map (Value.int .i64)) hs hown ⟨b, 0, none⟩ 1 m [.int .i64 z] hx (by rfl) (fun j u hj => ?_) (fun u hu => by simp at hu; subst hu; rfl) (by unfold maxLen; omega) (by omega) hbase (fun v' w' a b _ c => h v' w' (by rw [List.length_append, List.map_append]; exact a) b c)
  rw [show (Addr.add ⟨b, 0, none⟩ j) = ⟨b, j, none⟩ by simp only [Addr.add, Nat.zero_add]; split <;> simp_all, cell_blk hb j]
  simpa using hj
/-- An expression appended to a row of the call's own. -/
theorem appE {ops : Array Oper} {rest : List Oper} {o : Oper} {a : Act} {Q : Exit → Act → World → Prop} (hgd : o.guard = none) (s x : Operand)
    (ho : o.op = .call { callee := .builtin .append, args := #[s, x], argTypes := #[29, 29] }) (base : Nat) (w : World) (v : Value) (l : List Hv) (hs : a.eval s = v) (hown : w.ownsRow base 31 4 v l.length (hCells l)) (b m : Nat) (z : Hv) (hx : a.eval x = .slice (some ⟨b, 0, none⟩) 1 m) (hb : w.heap[b]? = some (.cells (hC z).toArray 31 (0, 0))) (hn : l.length ≤ 100000) (hbase : base ≤ w.heap.size)
    (h : ∀ v' w', w'.ownsRow base 31 4 v' (l ++ [z]).length (hCells (l ++ [z])) → w.grownBy w' v.ownBlock → (v'.ownBlock = v.ownBlock ∨ v'.ownBlock = some w.heap.size) → wpList Tryd.prog ops Q rest (a.put o.dst v') w') : wpList Tryd.prog ops Q (o :: rest) a w := by
  obtain ⟨k0, hk, hkz0, hkz1, hkz2⟩ := info_parts' info31
  refine wpList_append_own_at _ hgd s x 29 ho base 31 k0 _ 4 72 Tryd.underlying29 hk hkz0 hkz1 hkz2 rfl (by decide) v l.length (hCells l) hs hown ⟨b, 0, none⟩ 1 m (hC z) hx (by rfl) (fun j u hj => ?_) (fun u hu => hCells_one [z] u (by simpa [hCells] using hu)) (by unfold maxLen; omega) (by omega) hbase (fun v' w' a b _ c => h v' w' (by rw [List.length_append, hCells_app]; simpa [hCells] using a) b c)
  rw [show (Addr.add ⟨b, 0, none⟩ j) = ⟨b, j, none⟩ by simp only [Addr.add, Nat.zero_add]; split <;> simp_all, cell_blk hb j]
  simpa using hj
theorem own_nat {w : World} {B : Nat} {v : Value} {l : List Int} (h : w.ownsRow B 2 1 v l.length (l.map (Value.int .i64))) (hb : ∀ z ∈ l, -9223372036854775808 ≤ z ∧ z ≤ 9223372036854775807) : ∃ ao c, v = .slice ao l.length c ∧ NAt (only (frB B) w) ao l.length c l := by
  rcases h.2 with ⟨rfl, h0⟩ | ⟨g, cap, cur, rfl, hB, hg, h1, h2, h3, h4⟩
  · have h0 : l = [] := by simpa using h0
    subst h0
    exact ⟨none, 0, rfl, ⟨rfl, Nat.le_refl _, Nat.zero_le _, fun _ => ⟨rfl, rfl⟩, fun h => absurd h (Nat.lt_irrefl _)⟩⟩
  · refine ⟨some ⟨g, 0, none⟩, cap, rfl, ⟨rfl, h1, by unfold maxLen at h2; omega, (fun e => by cases e), fun h0 => ⟨g, 0, rfl, fun i hi => ⟨only_cell.2 ⟨frB_le hB, ?_⟩, hb _ (List.getElem_mem hi)⟩⟩⟩⟩
    rw [Nat.zero_add, cell_blk hg]
    have e : (l.map (Value.int .i64))[i]? = some (.int .i64 l[i]) := by simp [hi]
    rw [← h4, List.getElem?_take_of_lt (by omega)] at e
    simpa using e
/-- What operands holds on its way: its result's box, its expression's box, the rows. -/
structure OpI (w0 W w : World) (rb b : Nat) (ao : Option Addr) (n c : Nat) (l : List Lx.Tk) (s : Lx.St) (o : Int) (vn va : Value) (nums : List Int) (vs : List Hv) (Fs : List Lx.Ex) (m : Nat) : Prop where
  rd : Rd w0 w rb ao n c l s
  gr : W.grownBy w (some rb)
  lo : W.heap.size = b
  ne : w0.heap.size ≤ b ∧ rb < b
  res : w.heap[b]? = some (.cells #[.int .u8 0, .string ⟨#[]⟩, .slice none 0 0, .slice none 0 0] 31 (0, 0))
  xb : w.heap[b + 1]? = some (.cells #[.int .u8 o, .string ⟨#[]⟩, vn, va] 31 (0, 0))
  nr : w.ownsRow (b + 2) 2 1 vn nums.length (nums.map (Value.int .i64))
  nb : ∀ z ∈ nums, -9223372036854775808 ≤ z ∧ z ≤ 9223372036854775807
  ar : w.ownsRow (b + 2) 31 4 va vs.length (hCells vs)
  len : Fs.length = vs.length
  ex : ∀ i (h : i < vs.length) (h' : i < Fs.length), ExAt (only (fun q => decide (b + 2 ≤ q) && decide (va.ownBlock ≠ some q)) w) m (hV vs[i]) (tour Fs[i])
theorem ne_row {w : World} {B e s n : Nat} {v : Value} {xs : List Value} (h : w.ownsRow B e s v n xs) {q : Nat} (hq : q < B) : v.ownBlock = none ∨ v.ownBlock ≠ some q := by
  cases hb : v.ownBlock with
  | none => exact .inl rfl
  | some g => refine .inr (fun e => ?_); cases e; have := (h.lt _ hb).1; omega
/-- Whatever changes none of its blocks but the reader's. -/
theorem OpI.step {w0 W w w' : World} {rb b : Nat} {ao : Option Addr} {n c : Nat} {l : List Lx.Tk} {s s' : Lx.St} {o : Int} {vn va : Value} {nums : List Int} {vs : List Hv} {Fs : List Lx.Ex} {m : Nat} (h : OpI w0 W w rb b ao n c l s o vn va nums vs Fs m) (r : Rd w0 w' rb ao n c l s') (g : w.grownBy w' (some rb)) : OpI w0 W w' rb b ao n c l s' o vn va nums vs Fs m := by
  have hn := h.ne
  refine ⟨r, grown_trans h.gr g, h.lo, h.ne, blk_stay h.res g (by omega), blk_stay h.xb g (by omega), h.nr.kept g (ne_row h.nr (by omega)), h.nb, h.ar.kept g (ne_row h.ar (by omega)), h.len, fun i hi hi' => (h.ex i hi hi').sub (only_sub (fun q e lt => ⟨e, ?_⟩))⟩
  have : b + 2 ≤ q := by simp at e; exact e.1
  exact g.block q lt (fun e => by have := Option.some.inj e; omega)
theorem OpI.keep {w0 W w w' : World} {rb b : Nat} {ao : Option Addr} {n c : Nat} {l : List Lx.Tk} {s : Lx.St} {o : Int} {vn va : Value} {nums : List Int} {vs : List Hv} {Fs : List Lx.Ex} {m : Nat} (h : OpI w0 W w rb b ao n c l s o vn va nums vs Fs m) (k : Below w.heap.size w w') : OpI w0 W w' rb b ao n c l s o vn va nums vs Fs m := h.step (h.rd.keep k) (grown_of_below k _)
theorem grown_row {a b c : World} {row row' : Option Nat} (h : a.grownBy b row) (k : b.grownBy c row') (hg : ∀ q, row' = some q → a.heap.size ≤ q) : a.grownBy c row :=
  ⟨k.os.trans h.os, k.tape.trans h.tape, k.output.trans h.output, Nat.le_trans h.size k.size, fun q hq hne => (k.block q (Nat.lt_of_lt_of_le hq h.size) (fun e => by have := hg q e.symm; omega)).trans (h.block q hq hne)⟩
/-- A number more: the row has grown, and the box is written. -/
theorem OpI.num {w0 W w w4 : World} {rb b : Nat} {ao : Option Addr} {n c : Nat} {l : List Lx.Tk} {s : Lx.St} {o : Int} {vn va v' : Value} {nums : List Int} {vs : List Hv} {Fs : List Lx.Ex} {m : Nat} {z : Int} (h : OpI w0 W w rb b ao n c l s o vn va nums vs Fs m) (hv : vs = []) (hz : -9223372036854775808 ≤ z ∧ z ≤ 9223372036854775807) (own : w4.ownsRow (b + 2) 2 1 v' (nums ++ [z]).length ((nums ++ [z]).map (Value.int .i64))) (g : w.grownBy w4 vn.ownBlock) : OpI w0 W (w4.setCell ⟨b + 1, 2, none⟩ v') rb b ao n c l s o v' va (nums ++ [z]) vs Fs m := by
  have hn := h.ne
  subst hv
  have gx : w4.grownBy (w4.setCell ⟨b + 1, 2, none⟩ v') (some (b + 1)) := grow_cell _ _ _
  have hrow : ∀ q, vn.ownBlock = some q → b + 2 ≤ q := fun q e => (h.nr.lt q e).1
  have lt2 := (Array.getElem?_eq_some_iff.1 h.xb).1
  have k0 : ∀ {q : Nat} {cs : Array Value} {t : TypeId}, q < b + 2 → w.heap[q]? = some (.cells cs t (0, 0)) → w4.heap[q]? = some (.cells cs t (0, 0)) := fun {q cs t} hq e => (g.block q (Array.getElem?_eq_some_iff.1 e).1 (fun e' => by have := hrow q e'.symm; omega)).trans e
  have R4 : Rd w0 w4 rb ao n c l s := h.rd.grown g (fun q e => by have := hrow q e; omega)
  refine ⟨R4.grown gx (fun q e => by cases e; omega), grown_new (grown_row h.gr g (fun q e => by have := hrow q e; have := h.lo; omega)) gx (by have := h.lo; omega), h.lo, h.ne, blk_stay (k0 (by omega) h.res) gx (by omega), ?_, own.kept gx (ne_row own (by omega)), fun y hy => ?_, ?_, h.len, fun i hi => absurd hi (Nat.not_lt_zero _)⟩
  · rw [set_block (k0 (by omega) h.xb)]; rfl
  · rcases List.mem_append.1 hy with e | e
    · exact h.nb y e
    · simp at e; subst e; exact hz
  · have ap := own_apart h.ar h.nr (by decide)
    exact (h.ar.kept g ap).kept gx (ne_row h.ar (by omega))
/-- An argument more. -/
theorem OpI.arg {w0 W w w4 : World} {rb b : Nat} {ao : Option Addr} {n c : Nat} {l : List Lx.Tk} {s : Lx.St} {o : Int} {vn va v' : Value} {nums : List Int} {vs : List Hv} {Fs : List Lx.Ex} {m : Nat} {z : Hv} {F : Lx.Ex} {B : Nat} (h : OpI w0 W w rb b ao n c l s o vn va nums vs Fs m) (hB : b + 2 ≤ B) (hBa : ∀ q, va.ownBlock = some q → q < B) (hz : ExAt (only (frB B) w) m (hV z) (tour F)) (own : w4.ownsRow (b + 2) 31 4 v' (vs ++ [z]).length (hCells (vs ++ [z]))) (g : w.grownBy w4 va.ownBlock) (hv : v'.ownBlock = va.ownBlock ∨ ∀ q, v'.ownBlock = some q → w.heap.size ≤ q) : OpI w0 W (w4.setCell ⟨b + 1, 3, none⟩ v') rb b ao n c l s o vn v' nums (vs ++ [z]) (Fs ++ [F]) m := by
  have hn := h.ne
  have gx : w4.grownBy (w4.setCell ⟨b + 1, 3, none⟩ v') (some (b + 1)) := grow_cell _ _ _
  have hrow : ∀ q, va.ownBlock = some q → b + 2 ≤ q := fun q e => (h.ar.lt q e).1
  have k0 : ∀ {q : Nat} {cs : Array Value} {t : TypeId}, q < b + 2 → w.heap[q]? = some (.cells cs t (0, 0)) → w4.heap[q]? = some (.cells cs t (0, 0)) := fun {q cs t} hq e => (g.block q (Array.getElem?_eq_some_iff.1 e).1 (fun e' => by have := hrow q e'.symm; omega)).trans e
  have R4 : Rd w0 w4 rb ao n c l s := h.rd.grown g (fun q e => by have := hrow q e; omega)
  have kx : ∀ q, b + 2 ≤ q → va.ownBlock ≠ some q → q < w.heap.size → (decide (b + 2 ≤ q) && decide (v'.ownBlock ≠ some q)) = true ∧ (w4.setCell ⟨b + 1, 3, none⟩ v').heap[q]? = w.heap[q]? := fun q q1 q2 q3 => by
    refine ⟨?_, (gx.block q (Nat.lt_of_lt_of_le q3 g.size) (fun e => by have := Option.some.inj e; omega)).trans (g.block q q3 (fun e => q2 e.symm))⟩
    simp only [Bool.and_eq_true, decide_eq_true_eq]
    refine ⟨q1, fun e => ?_⟩
    rcases hv with e' | e'
    · exact q2 (e' ▸ e)
    · have := e' q e; omega
  refine ⟨R4.grown gx (fun q e => by cases e; omega), grown_new (grown_row h.gr g (fun q e => by have := hrow q e; have := h.lo; omega)) gx (by have := h.lo; omega), h.lo, h.ne, blk_stay (k0 (by omega) h.res) gx (by omega), ?_, ?_, h.nb, own.kept gx (ne_row own (by omega)), by simp [h.len], fun i hi hi' => ?_⟩
  · rw [set_block (k0 (by omega) h.xb)]; rfl
  · have ap := own_apart h.nr h.ar (by decide)
    exact (h.nr.kept g ap).kept gx (ne_row h.nr (by omega))
  · have hl := h.len
    by_cases q : i < vs.length
    · have e1 : (vs ++ [z])[i] = vs[i] := List.getElem_append_left q
      have e2 : (Fs ++ [F])[i] = Fs[i]'(by omega) := List.getElem_append_left (by omega)
      rw [e1, e2]
      refine (h.ex i q (by omega)).sub (only_sub (fun r e lt => ?_))
      simp only [Bool.and_eq_true, decide_eq_true_eq] at e
      exact kx r e.1 e.2 lt
    · have e0 : i = vs.length := by simp at hi; omega
      subst e0
      have e1 : (vs ++ [z])[vs.length] = z := by simp
      have e2 : (Fs ++ [F])[vs.length]'hi' = F := by simp [← hl]
      rw [e1, e2]
      refine hz.sub (only_sub (fun r e lt => ?_))
      have := le_frB e
      exact kx r (by omega) (fun e => by have := hBa r e; omega) lt
/-- What it comes to. -/
theorem OpI.done {w0 W w : World} {rb b : Nat} {ao : Option Addr} {n c : Nat} {l : List Lx.Tk} {s : Lx.St} {o : Int} {vn va : Value} {nums : List Int} {vs : List Hv} {Fs : List Lx.Ex} {m : Nat} (h : OpI w0 W w rb b ao n c l s o vn va nums vs Fs m) (ho : 0 ≤ o ∧ o ≤ 255) : ∃ an nc aa ac, vn = .slice an nums.length nc ∧ va = .slice aa Fs.length ac ∧ ExAt (only (frB (b + 2)) w) (m + 1) (.agg #[.int .u8 o, .string ⟨#[]⟩, vn, va]) (tour (.mk o [] nums Fs)) := by
  obtain ⟨an, nc, rfl, hN⟩ := own_nat h.nr h.nb
  have hl := h.len
  have hlo := h.lo
  have et : tour (.mk o [] nums Fs) = fun d => ((⟨o, ⟨#[]⟩, nums, Fs.length⟩ : Pt), d) :: flat (Fs.map tour) (d + 1) := by
    funext d; rw [tour, tours_flat]
  have har := h.ar
  rcases har.2 with ⟨rfl, h0⟩ | ⟨g, cap, cur, rfl, hB, hg, h1, h2, h3, h4⟩
  · have h0 : vs = [] := by simpa using h0
    subst h0
    have h0 : Fs = [] := List.eq_nil_of_length_eq_zero hl
    subst h0
    refine ⟨an, nc, none, 0, rfl, rfl, ⟨⟨o, ⟨#[]⟩, nums, 0⟩, an, nums.length, nc, none, 0, [], rfl, ⟨ho.1, ho.2, (show (0 : Nat) ≤ maxLen from Nat.zero_le _), hN, Nat.le_refl _, Nat.zero_le _, fun _ => ⟨rfl, rfl⟩⟩, rfl, et, fun h => absurd h (Nat.lt_irrefl _)⟩⟩
  · refine ⟨an, nc, some ⟨g, 0, none⟩, cap, rfl, by rw [hl], ?_⟩
    rw [← hl]
    refine ⟨⟨o, ⟨#[]⟩, nums, Fs.length⟩, an, nums.length, nc, some ⟨g, 0, none⟩, cap, Fs.map tour, rfl, ⟨ho.1, ho.2, (show (0 : Nat) ≤ maxLen from Nat.zero_le _), hN, by show Fs.length ≤ cap; omega, by unfold maxLen at h2; omega, fun e => by cases e⟩, by simp, et, fun h0 => ⟨g, 0, rfl, fun i hi => ?_⟩⟩
    have hi1 : i < Fs.length := by simpa using hi
    have hi2 : i < vs.length := by omega
    have gt := hCells_get vs i hi2
    have e : ∀ j, j < vs.length * 4 → (only (frB (b + 2)) w).cell? ⟨g, 0 + j, none⟩ = (hCells vs)[j]? := fun j hj => by
      have hc := hCells_len vs
      have e1 : (hCells vs)[j]? = cur[j]? := by rw [← h4, List.getElem?_take_of_lt hj]; simp
      have e2 : ∃ u, (hCells vs)[j]? = some u := ⟨_, List.getElem?_eq_getElem (by omega)⟩
      obtain ⟨u, hu⟩ := e2
      rw [hu]
      refine only_cell.2 ⟨frB_le hB, ?_⟩
      rw [Nat.zero_add, cell_blk hg, ← e1, hu]
    have hx := (h.ex i hi2 hi1).sub (w' := only (frB (b + 2)) w) (only_sub (fun q e _ => ⟨frB_le (by simp at e; omega), rfl⟩))
    refine ⟨.int .u8 vs[i].p.op, .string vs[i].p.nm, .slice vs[i].an vs[i].nn vs[i].nc, .slice vs[i].aa vs[i].p.k vs[i].ac, (e _ (by omega)).trans gt.1, ?_, ?_, ?_, ?_⟩
    · rw [Nat.add_assoc]; exact (e _ (by omega)).trans gt.2.1
    · rw [Nat.add_assoc]; exact (e _ (by omega)).trans gt.2.2.1
    · rw [Nat.add_assoc]; exact (e _ (by omega)).trans gt.2.2.2
    · rw [List.getElem_map]; exact hx
end Go.Proofs.YtllhcpkpbipjlaaDoor
