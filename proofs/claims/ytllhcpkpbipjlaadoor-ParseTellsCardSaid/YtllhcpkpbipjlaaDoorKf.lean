/- L3, L4, L5, L7, L8, E1 in one. -/
import Derived.Test.YtllhcpkpbipjlaaDoorKd
import Derived.Test.YtllhcpkpbipjlaaDoorKe
import Derived.BigQuiet
import Derived.BigRegion
import Derived.Deep.AppendLies
import Derived.Deep.DeepCutAuto
import Derived.Deep.DeepFit
import Derived.Deep.MidRow
import Derived.Deep.QuietTactic
import Derived.Deep.RegionHeld3
import Derived.Deep.RegionLaw
import Derived.Handy
import Derived.IntWalk
import Derived.Laws.AppendOwn
import Derived.Laws.Bits64b
import Derived.Laws.CopyOwn
import Derived.Laws.OwnMore
import Derived.Lib.Hide
import Derived.Lib.Mul64
import Derived.Maps.AppendAt
import Derived.OpenShut
import Derived.Outline
import Derived.OwnWalk
import Derived.ProofKit
import Derived.ScopeJumps
import Derived.StillTailTactics
import Derived.WalkKit
import Derived.WalkMore
import Derived.WalkSpells
import Derived.Tactics
import Derived.Tactics2
import Derived.Laws.Pointers
import Derived.RegionTactic
import Derived.RegionCalls
import Derived.Laws.NewBlocks
import Derived.Laws.EntriesVeiled
import Derived.Below
namespace Go.Proofs.YtllhcpkpbipjlaaDoor
set_option linter.unusedVariables false
set_option linter.unusedSimpArgs false
open Go.ChangeShapes Go.WideShapes Go.ChangeAt Go.RowKit
/-- The tables that lex reads. -/
structure Tx (w : World) : Prop where
  tabs : Tabs w
  syn : ∃ tp p, w.var? Tryd.prog "strconv.ErrSyntax" = some #[.iface tp p]
  rng : ∃ tp p, w.var? Tryd.prog "strconv.ErrRange" = some #[.iface tp p]
theorem var_keep {w w' : World} {s : String} {c : Array Value} (h : w.var? Tryd.prog s = some c) (b : Below w.heap.size w w') : w'.var? Tryd.prog s = some c := by
  unfold World.var? at *
  cases hg : Tryd.prog.globalNamed s with
  | none => simp [hg] at h
  | some g =>
    simp only [hg, Option.bind_some] at h ⊢
    have hlt : g < w.heap.size := by
      rcases Nat.lt_or_ge g w.heap.size with h' | h'
      · exact h'
      · rw [Array.getElem?_eq_none h'] at h; simp at h
    rw [b.block g hlt]
    exact h
theorem Tx.keep {w w' : World} (h : Tx w) (b : Below w.heap.size w w') : Tx w' := by
  obtain ⟨t1, p1, h1⟩ := h.syn
  obtain ⟨t2, p2, h2⟩ := h.rng
  exact ⟨h.tabs.keep b, ⟨t1, p1, var_keep h1 b⟩, ⟨t2, p2, var_keep h2 b⟩⟩
/-- A number that a text spells. -/
def piOf (l : List UInt8) : Option Int := match Lib.parseIntB 64 l with
  | .ok v => some v
  | _ => none
theorem body_trim (l : List UInt8) : Lx.body l = Lib.trimPrefix l [45] := by
  unfold Lx.body Lib.trimPrefix Lib.hasPrefix
  cases l with
  | nil => rfl
  | cons c r =>
    by_cases h : c = 45
    · subst h; simp
    · have : ¬ (45 : UInt8) = c := fun e => h e.symm
      simp [h, this]
theorem pi_nil : piOf [] = none := rfl
theorem pi_minus : piOf [45] = none := by unfold piOf; rfl
theorem bytes_below (w : World) (e : TypeId) (s : ByteArray) : Below w.heap.size w (Lib.bytesWorld w e s) := by
  exact ⟨rfl, rfl, rfl, by rw [Lib.bytesWorld_size]; omega, fun j hj => Lib.bytesWorld_at_old w e s j hj⟩
/-- A token's value. -/
def tkv (t : Lx.Tk) : Value := .agg #[.int .u8 t.1, .string ⟨t.2.1.toArray⟩, .int .i64 t.2.2]
def fstV : Option (Lx.Tk × Nat) → Value
  | some (t, n) => .tuple #[tkv t, .int .i64 (n : Int)]
  | none => .tuple #[.agg #[.int .u8 0, .string ⟨#[]⟩, .int .i64 0], .int .i64 0]
def numT : Option (Int × Nat) → Option (Lx.Tk × Nat)
  | some (v, n) => some ((2, [], v), n)
  | none => none
theorem al_new (w : World) (o : Obj) : (w.alloc o).heap[w.heap.size]? = some o := by
  show (w.heap.push o)[w.heap.size]? = _
  simp
theorem cell_blk {w : World} {b : Nat} {c : Array Value} {t : TypeId} (h : w.heap[b]? = some (.cells c t (0, 0))) (k : Nat) : w.cell? ⟨b, k, none⟩ = c[k]? := by
  unfold World.cell?; rw [h]; rfl
theorem blk_free {w : World} {b : Nat} {c : Array Value} {t : TypeId} (h : w.heap[b]? = some (.cells c t (0, 0))) (k : Nat) : w.frozen? ⟨b, k, none⟩ = false := by
  unfold World.frozen?; rw [h]; simp
theorem blk_keep {w w' : World} {b : Nat} {o : Obj} (h : w.heap[b]? = some o) (q : Below w.heap.size w w') : w'.heap[b]? = some o := (q.block b (Array.getElem?_eq_some_iff.1 h).1).trans h
/-- What an empty token's box becomes. -/
theorem box_end {w w1 w2 : World} {b : Nat} (K : Below w.heap.size w w1) (hb : w.heap.size ≤ b) (x0 x1 x2 : Value) (q : Below w1.heap.size w1 w2) : Below w.heap.size w (((w2.setCell ⟨b, 0, none⟩ x0).setCell ⟨b, 1, none⟩ x1).setCell ⟨b, 2, none⟩ x2) :=
  ((((K.trans (q.mono K.size)).setCell (p := ⟨b, 0, none⟩) hb x0).setCell (p := ⟨b, 1, none⟩) hb x1).setCell (p := ⟨b, 2, none⟩) hb x2)
theorem set_block {w : World} {b : Nat} {c : Array Value} {t : TypeId} (h : w.heap[b]? = some (.cells c t (0, 0))) (k : Nat) (u : Value) : (w.setCell ⟨b, k, none⟩ u).heap[b]? = some (.cells (c.setIfInBounds k u) t (0, 0)) := by
  unfold World.setCell
  simp only [Array.getElem?_modify, h, if_true, Option.map_some, Option.isSome_none, Bool.false_eq_true, if_false]
theorem box_set {w : World} {b : Nat} {a0 a1 a2 : Value} (h : w.heap[b]? = some (.cells #[a0, a1, a2] 47 (0, 0))) (x0 x1 x2 : Value) : (((w.setCell ⟨b, 0, none⟩ x0).setCell ⟨b, 1, none⟩ x1).setCell ⟨b, 2, none⟩ x2).heap[b]? = some (.cells #[x0, x1, x2] 47 (0, 0)) := by
  have e0 := set_block h 0 x0
  have e1 := set_block e0 1 x1
  exact set_block e1 2 x2
def dayT (s : List UInt8) : Option (Lx.Tk × Nat) := match readOf (s.take (Lx.run Lx.dlt s)) with
  | some d => some ((3, [], d), 1 + Lx.run Lx.dlt s)
  | none => none
theorem idx_mem : ∀ (l : List UInt8) (c : UInt8), 0 ≤ Lib.indexByte l c ↔ c ∈ l
  | [], c => by simp [Lib.indexByte]
  | b :: l, c => by
    have ih := idx_mem l c
    have ge := Lib.indexByte_ge l c
    unfold Lib.indexByte
    by_cases h : b = c
    · subst h; simp
    · have h1 : (b == c) = false := by simp [h]
      rw [h1, if_neg (by decide)]
      by_cases h2 : Lib.indexByte l c = -1
      · have h3 : (Lib.indexByte l c == -1) = true := by simp [h2]
        rw [h3, if_pos rfl]
        have : ¬ c ∈ l := fun z => by have := ih.2 z; omega
        simp [this, Ne.symm h]
      · have h3 : (Lib.indexByte l c == -1) = false := by simp [h2]
        rw [h3, if_neg (by decide)]
        have : c ∈ l := ih.1 (by omega)
        simp [this]; omega
theorem idx_marks (c : UInt8) : 0 ≤ Lib.indexByte [40, 41, 44, 61, 58, 91, 93] c ↔ Lx.mrk c = true := by
  rw [idx_mem]
  unfold Lx.mrk
  rw [decide_eq_true_iff]
  have e : ∀ k : UInt8, (c = k) ↔ c.toNat = k.toNat := fun k => ⟨fun h => by rw [h], fun h => UInt8.toNat_inj.1 h⟩
  simp only [List.mem_cons, List.not_mem_nil, or_false, e]
  have h0 : (40 : UInt8).toNat = 40 := rfl
  have h1 : (41 : UInt8).toNat = 41 := rfl
  have h2 : (44 : UInt8).toNat = 44 := rfl
  have h3 : (61 : UInt8).toNat = 61 := rfl
  have h4 : (58 : UInt8).toNat = 58 := rfl
  have h5 : (91 : UInt8).toNat = 91 := rfl
  have h6 : (93 : UInt8).toNat = 93 := rfl
  rw [h0, h1, h2, h3, h4, h5, h6]
/-- The cells of tokens. -/
def tkC (t : Lx.Tk) : List Value := [.int .u8 t.1, .string ⟨t.2.1.toArray⟩, .int .i64 t.2.2]
def tkCells (l : List Lx.Tk) : List Value := (l.map tkC).flatten
theorem tkCells_app (l k : List Lx.Tk) : tkCells (l ++ k) = tkCells l ++ tkCells k := by simp [tkCells]
theorem tkCells_len (l : List Lx.Tk) : (tkCells l).length = l.length * 3 := by
  induction l with
  | nil => rfl
  | cons x r ih => unfold tkCells at *; simp [tkC] at *; omega
theorem tkCells_one (l : List Lx.Tk) : ∀ u ∈ tkCells l, u.oneCell' = true := by
  intro u hu
  unfold tkCells at hu
  obtain ⟨m, hm, hu⟩ := List.mem_flatten.1 hu
  obtain ⟨t, _, rfl⟩ := List.mem_map.1 hm
  simp [tkC] at hu
  rcases hu with rfl | rfl | rfl <;> rfl
theorem info_parts' {P : Program} {t : TypeId} {z : Value} {s b : Nat} (h : (P.info? t).map (fun i => (i.zero, i.size, i.bytes)) = some (some z, s, b)) : ∃ i, P.info? t = some i ∧ i.zero = some z ∧ i.size = s ∧ i.bytes = b := by
  cases hi : P.info? t with
  | none => rw [hi] at h; cases h
  | some i =>
    rw [hi] at h
    simp at h
    exact ⟨i, rfl, h.1, h.2.1, h.2.2⟩
theorem info47 : (Tryd.prog.info? 47).map (fun i => (i.zero, i.size, i.bytes)) = some (some (.agg #[.int .u8 0, .string ⟨#[]⟩, .int .i64 0]), 3, 32) := by kernel_rfl
theorem appK {ops : Array Oper} {rest : List Oper} {o : Oper} {a : Act} {Q : Exit → Act → World → Prop} (hgd : o.guard = none) (s x : Operand)
    (ho : o.op = .call { callee := .builtin .append, args := #[s, x], argTypes := #[22, 22] }) (base : Nat) (w : World) (v : Value) (l : List Lx.Tk) (hs : a.eval s = v) (hown : w.ownsRow base 47 3 v l.length (tkCells l)) (b m c : Nat) (k : List Lx.Tk) (cs : Array Value) (hx : a.eval x = .slice (some ⟨b, 0, none⟩) m c) (hb : w.heap[b]? = some (.cells cs 47 (0, 0))) (hcs : ∀ (j : Nat) (u : Value), (tkCells k)[j]? = some u → cs[j]? = some u) (hm : k.length = m) (hn : l.length + m ≤ 1048576) (hbase : base ≤ w.heap.size)
    (h : ∀ v' w', w'.ownsRow base 47 3 v' (l ++ k).length (tkCells (l ++ k)) → w.grownBy w' v.ownBlock → wpList Tryd.prog ops Q rest (a.put o.dst v') w') : wpList Tryd.prog ops Q (o :: rest) a w := by
  obtain ⟨k0, hk, hkz0, hkz1, hkz2⟩ := info_parts' info47
  refine wpList_append_own_at _ hgd s x 22 ho base 47 k0 (.agg #[.int .u8 0, .string ⟨#[]⟩, .int .i64 0]) 3 32 Tryd.underlying22 hk hkz0 hkz1 hkz2 rfl (by decide) v l.length (tkCells l) hs hown ⟨b, 0, none⟩ m c (tkCells k) hx (by rw [tkCells_len, hm]) (fun j u hj => ?_) (tkCells_one k) (by unfold maxLen; omega) (by omega) hbase (fun v' w' a b _ _ => h v' w' (by rw [List.length_append, hm, tkCells_app]; exact a) b)
  rw [show (Addr.add ⟨b, 0, none⟩ j) = ⟨b, j, none⟩ by simp only [Addr.add, Nat.zero_add]; split <;> simp_all, cell_blk hb j]
  exact hcs j u hj
theorem keepB {w w' : World} {B e s n : Nat} {v : Value} {xs : List Value} (h : w.ownsRow B e s v n xs) (b : Below w.heap.size w w') : w'.ownsRow B e s v n xs := by
  refine ⟨h.1, ?_⟩
  rcases h.2 with hn | ⟨g, cap, cur, hv, hb, hg, rest⟩
  · exact .inl hn
  · exact .inr ⟨g, cap, cur, hv, hb, (b.block g (Array.getElem?_eq_some_iff.1 hg).1).trans hg, rest⟩
theorem pi_nil' : piOf [] = none := rfl
theorem one_cells (t : Lx.Tk) (j : Nat) (u : Value) (h : (tkCells [t])[j]? = some u) : (#[.int .u8 t.1, .string ⟨t.2.1.toArray⟩, .int .i64 t.2.2] : Array Value)[j]? = some u := by
  simpa [tkCells, tkC] using h
/-- A list of tokens in memory. -/
structure TkAt (w : World) (ao : Option Addr) (n c : Nat) (l : List Lx.Tk) : Prop where
  len : l.length = n
  le : n ≤ c
  top : c ≤ 9223372036854775807
  bare : ao = none → n = 0 ∧ c = 0
  here : 0 < n → ∃ b p, ao = some ⟨b, p, none⟩ ∧ ∀ i (h : i < l.length), w.cell? ⟨b, p + i * 3, none⟩ = some (.int .u8 l[i].1) ∧ w.cell? ⟨b, p + i * 3 + 1, none⟩ = some (.string ⟨l[i].2.1.toArray⟩) ∧ w.cell? ⟨b, p + i * 3 + 2, none⟩ = some (.int .i64 l[i].2.2)
theorem TkAt.keep {w w' : World} {ao : Option Addr} {n c : Nat} {l : List Lx.Tk} (h : TkAt w ao n c l) (k : Below w.heap.size w w') : TkAt w' ao n c l :=
  ⟨h.len, h.le, h.top, h.bare, fun h0 => by
    obtain ⟨b, p, e, hc⟩ := h.here h0
    exact ⟨b, p, e, fun i hi => ⟨cell_keep (hc i hi).1 k, cell_keep (hc i hi).2.1 k, cell_keep (hc i hi).2.2 k⟩⟩⟩
theorem tkCells_get : ∀ (l : List Lx.Tk) (i : Nat) (h : i < l.length), (tkCells l)[i * 3]? = some (.int .u8 l[i].1) ∧ (tkCells l)[i * 3 + 1]? = some (.string ⟨l[i].2.1.toArray⟩) ∧ (tkCells l)[i * 3 + 2]? = some (.int .i64 l[i].2.2)
  | t :: r, 0, _ => ⟨rfl, rfl, rfl⟩
  | t :: r, i + 1, h => by
    have ih := tkCells_get r i (by simpa using h)
    have e : ∀ j, (tkCells (t :: r))[j + 3]? = (tkCells r)[j]? := fun j => rfl
    refine ⟨?_, ?_, ?_⟩
    · rw [show (i + 1) * 3 = i * 3 + 3 by omega, e]; exact ih.1
    · rw [show (i + 1) * 3 + 1 = i * 3 + 1 + 3 by omega, e]; exact ih.2.1
    · rw [show (i + 1) * 3 + 2 = i * 3 + 2 + 3 by omega, e]; exact ih.2.2
theorem own_tk {w : World} {B : Nat} {v : Value} {l : List Lx.Tk} (h : w.ownsRow B 47 3 v l.length (tkCells l)) : ∃ ao c, v = .slice ao l.length c ∧ TkAt w ao l.length c l := by
  rcases h.2 with ⟨rfl, h0⟩ | ⟨g, cap, cur, rfl, _, hg, h1, h2, h3, h4⟩
  · rw [h0]
    exact ⟨none, 0, rfl, ⟨h0, Nat.le_refl _, Nat.zero_le _, fun _ => ⟨rfl, rfl⟩, fun h => absurd h (Nat.lt_irrefl _)⟩⟩
  · refine ⟨some ⟨g, 0, none⟩, cap, rfl, ⟨rfl, h1, by unfold maxLen at h2; omega, (fun e => by cases e), fun h0 => ⟨g, 0, rfl, fun i hi => ?_⟩⟩⟩
    have gt := tkCells_get l i hi
    have e : ∀ j, j < l.length * 3 → w.cell? ⟨g, 0 + j, none⟩ = (tkCells l)[j]? := fun j hj => by
      rw [Nat.zero_add, cell_blk hg, ← h4, List.getElem?_take_of_lt hj]; simp
    refine ⟨?_, ?_, ?_⟩
    · rw [e _ (by omega)]; exact gt.1
    · rw [Nat.add_assoc, e _ (by omega)]; exact gt.2.1
    · rw [Nat.add_assoc, e _ (by omega)]; exact gt.2.2
theorem row_tk {w : World} {B n : Nat} {v : Value} {xs : List Value} (h : w.ownsRow B 47 3 v n xs) : ∃ ao c, v = .slice ao n c ∧ (ao = none → c = 0) := by
  rcases h.2 with ⟨rfl, rfl⟩ | ⟨g, cap, cur, rfl, _⟩
  · exact ⟨none, 0, rfl, fun _ => rfl⟩
  · exact ⟨_, cap, rfl, fun e => by cases e⟩
theorem below_drewN {B : Nat} {a w : World} (h : Below B a w) (n : Nat) : Below B a (w.drewN n) := ⟨h.os, h.tape, h.output, h.size, h.block⟩
theorem al_old (w : World) (o : Obj) {r : Nat} (h : r < w.heap.size) : (w.alloc o).heap[r]? = w.heap[r]? := Below.heap_alloc w o r h
theorem grow_cell (w : World) (p : Addr) (u : Value) : w.grownBy (w.setCell p u) (some p.block) := ⟨rfl, rfl, rfl, by simp [World.setCell], fun q hq hne => Below.heap_setCell _ _ _ _ (by intro e; exact hne (by rw [e]))⟩
/-- A part of an expression. -/
structure Pt where
  op : Int
  nm : ByteArray
  nums : List Int
  k : Nat
/-- A list of numbers in memory. -/
structure NAt (w : World) (ao : Option Addr) (n c : Nat) (l : List Int) : Prop where
  len : l.length = n
  le : n ≤ c
  top : c ≤ 9223372036854775807
  bare : ao = none → n = 0 ∧ c = 0
  here : 0 < n → ∃ b p, ao = some ⟨b, p, none⟩ ∧ ∀ i (h : i < l.length), w.cell? ⟨b, p + i, none⟩ = some (.int .i64 l[i]) ∧ -9223372036854775808 ≤ l[i] ∧ l[i] ≤ 9223372036854775807
theorem NAt.keep {w w' : World} {ao : Option Addr} {n c : Nat} {l : List Int} (h : NAt w ao n c l) (k : Below w.heap.size w w') : NAt w' ao n c l :=
  ⟨h.len, h.le, h.top, h.bare, fun h0 => by
    obtain ⟨b, p, e, hc⟩ := h.here h0
    exact ⟨b, p, e, fun i hi => ⟨cell_keep (hc i hi).1 k, (hc i hi).2⟩⟩⟩
/-- The head of a part: its operator, its name, its numbers, how many arguments. -/
structure HdAt (w : World) (p : Pt) (an : Option Addr) (nn nc : Nat) (aa : Option Addr) (ac : Nat) : Prop where
  o1 : 0 ≤ p.op
  o2 : p.op ≤ 255
  nmle : p.nm.size ≤ maxLen
  nums : NAt w an nn nc p.nums
  le : p.k ≤ ac
  top : ac ≤ 9223372036854775807
  bare : aa = none → p.k = 0 ∧ ac = 0
theorem HdAt.keep {w w' : World} {p : Pt} {an aa : Option Addr} {nn nc ac : Nat} (h : HdAt w p an nn nc aa ac) (k : Below w.heap.size w w') : HdAt w' p an nn nc aa ac := ⟨h.o1, h.o2, h.nmle, h.nums.keep k, h.le, h.top, h.bare⟩
/-- The value of a part. -/
def pv (p : Pt) (an : Option Addr) (nn nc : Nat) (aa : Option Addr) (ac : Nat) : Value := .agg #[.int .u8 p.op, .string p.nm, .slice an nn nc, .slice aa p.k ac]
abbrev Tour := Int → List (Pt × Int)
/-- The parts of some expressions, one after another. -/
def flat (Fs : List Tour) (d : Int) : List (Pt × Int) := (Fs.map (fun F => F d)).flatten
theorem flat_snoc (Fs : List Tour) (F : Tour) (d : Int) : flat (Fs ++ [F]) d = flat Fs d ++ F d := by simp [flat]
theorem flat_app (A B : List Tour) (d : Int) : flat (A ++ B) d = flat A d ++ flat B d := by simp [flat]
/-- An expression in memory, of a depth of at most n: its parts, with their depths. -/
def ExAt (w : World) : Nat → Value → Tour → Prop
  | 0, _, _ => False
  | n + 1, v, F => ∃ (p : Pt) (an : Option Addr) (nn nc : Nat) (aa : Option Addr) (ac : Nat) (Fs : List Tour), v = pv p an nn nc aa ac ∧ HdAt w p an nn nc aa ac ∧ Fs.length = p.k ∧ F = (fun d => (p, d) :: flat Fs (d + 1)) ∧
      (0 < p.k → ∃ b q, aa = some ⟨b, q, none⟩ ∧ ∀ i (h : i < Fs.length), ∃ x0 x1 x2 x3, w.cell? ⟨b, q + i * 4, none⟩ = some x0 ∧ w.cell? ⟨b, q + i * 4 + 1, none⟩ = some x1 ∧ w.cell? ⟨b, q + i * 4 + 2, none⟩ = some x2 ∧ w.cell? ⟨b, q + i * 4 + 3, none⟩ = some x3 ∧ ExAt w n (.agg #[x0, x1, x2, x3]) Fs[i])
theorem ExAt.keep {w w' : World} (k : Below w.heap.size w w') : ∀ {n : Nat} {v : Value} {F : Tour}, ExAt w n v F → ExAt w' n v F
  | 0, _, _, h => h
  | n + 1, v, F, h => by
    obtain ⟨p, an, nn, nc, aa, ac, Fs, e1, hh, e2, e3, hc⟩ := h
    refine ⟨p, an, nn, nc, aa, ac, Fs, e1, hh.keep k, e2, e3, fun h0 => ?_⟩
    obtain ⟨b, q, e, hx⟩ := hc h0
    refine ⟨b, q, e, fun i hi => ?_⟩
    obtain ⟨x0, x1, x2, x3, c0, c1, c2, c3, hr⟩ := hx i hi
    exact ⟨x0, x1, x2, x3, cell_keep c0 k, cell_keep c1 k, cell_keep c2 k, cell_keep c3 k, hr.keep k⟩
theorem ExAt.more {w : World} : ∀ {n m : Nat} {v : Value} {F : Tour}, n ≤ m → ExAt w n v F → ExAt w m v F
  | 0, _, _, _, _, h => h.elim
  | n + 1, 0, _, _, q, _ => absurd q (Nat.not_succ_le_zero _)
  | n + 1, m + 1, v, F, q, h => by
    obtain ⟨p, an, nn, nc, aa, ac, Fs, e1, hh, e2, e3, hc⟩ := h
    refine ⟨p, an, nn, nc, aa, ac, Fs, e1, hh, e2, e3, fun h0 => ?_⟩
    obtain ⟨b, r, e, hx⟩ := hc h0
    refine ⟨b, r, e, fun i hi => ?_⟩
    obtain ⟨x0, x1, x2, x3, c0, c1, c2, c3, hr⟩ := hx i hi
    exact ⟨x0, x1, x2, x3, c0, c1, c2, c3, hr.more (Nat.le_of_succ_le_succ q)⟩
theorem ExAt.shape {w : World} {n : Nat} {v : Value} {F : Tour} (h : ExAt w n v F) : ∃ x0 x1 x2 x3, v = .agg #[x0, x1, x2, x3] := by
  match n, h with
  | n + 1, h =>
    obtain ⟨p, an, nn, nc, aa, ac, Fs, rfl, _⟩ := h
    exact ⟨_, _, _, _, rfl⟩
theorem ExAt.head {w : World} {n : Nat} {v : Value} {F : Tour} (h : ExAt w n v F) : ∃ (p : Pt) (an : Option Addr) (nn nc : Nat) (aa : Option Addr) (ac : Nat), v = .agg #[.int .u8 p.op, .string p.nm, .slice an nn nc, .slice aa p.k ac] ∧ HdAt w p an nn nc aa ac := by
  match n, h with
  | n + 1, h =>
    obtain ⟨p, an, nn, nc, aa, ac, Fs, rfl, hh, _⟩ := h
    exact ⟨p, an, nn, nc, aa, ac, rfl, hh⟩
/-- Going through parts, as long as they are wanted. -/
def run {σ : Type} (step : σ → Pt → Int → σ × Bool) : σ → List (Pt × Int) → σ × Bool
  | s, [] => (s, true)
  | s, x :: r => if (step s x.1 x.2).2 = true then run step (step s x.1 x.2).1 r else ((step s x.1 x.2).1, false)
theorem run_t {σ : Type} {step : σ → Pt → Int → σ × Bool} {s : σ} {x : Pt × Int} {r : List (Pt × Int)} (h : (step s x.1 x.2).2 = true) : run step s (x :: r) = run step (step s x.1 x.2).1 r := by
  simp only [run, h, if_true]
theorem run_f {σ : Type} {step : σ → Pt → Int → σ × Bool} {s : σ} {x : Pt × Int} {r : List (Pt × Int)} (h : (step s x.1 x.2).2 = false) : run step s (x :: r) = ((step s x.1 x.2).1, false) := by
  simp only [run, h, Bool.false_eq_true, if_false]
theorem run_on {σ : Type} {step : σ → Pt → Int → σ × Bool} : ∀ {a b : List (Pt × Int)} {s : σ}, (run step s a).2 = true → run step s (a ++ b) = run step (run step s a).1 b
  | [], b, s, _ => rfl
  | x :: r, b, s, h => by
    cases e : (step s x.1 x.2).2
    · rw [run_f e] at h; cases h
    · rw [run_t e] at h
      rw [List.cons_append, run_t e, run_t e]
      exact run_on h
theorem run_off {σ : Type} {step : σ → Pt → Int → σ × Bool} : ∀ {a b : List (Pt × Int)} {s : σ}, (run step s a).2 = false → run step s (a ++ b) = run step s a
  | [], b, s, h => by cases h
  | x :: r, b, s, h => by
    cases e : (step s x.1 x.2).2
    · rw [List.cons_append, run_f e, run_f e]
    · rw [run_t e] at h
      rw [List.cons_append, run_t e, run_t e]
      exact run_off h
theorem run_m {σ : Type} {step : σ → Pt → Int → σ × Bool} {m : σ → Nat} (hm : ∀ s p d, m (step s p d).1 ≤ m s + 1) : ∀ (l : List (Pt × Int)) (s : σ), m (run step s l).1 ≤ m s + l.length
  | [], s => by simp [run]
  | x :: r, s => by
    cases e : (step s x.1 x.2).2
    · rw [run_f e]; have := hm s x.1 x.2; simp; omega
    · rw [run_t e]; have := hm s x.1 x.2; have := run_m hm r (step s x.1 x.2).1; simp; omega
end Go.Proofs.YtllhcpkpbipjlaaDoor
