/- L1, I49 in one. -/
import Derived.Test.YtmjapbjjfhmohaaKu
import Derived.Laws.AppendOwnNone
import Derived.Test.YtmjapbjjfhmohaaKp
namespace Go.Proofs.Ytmjapbjjfhmohaa
set_option linter.unusedVariables false
set_option linter.unusedSimpArgs false
open Go.ChangeShapes Go.WideShapes Go.ChangeAt Go.RowKit Go.Shelf

theorem wpListIn_append_own_none {F : Fence} {n : Nat} {P : Program} {w : World} {ops : Array Oper} {rest : List Oper} {o : Oper} {a : Act} {Q : Exit → Act → World → Prop} (hg : o.guard = none) (s x : Operand) (t : TypeId)
    (hop : o.op = Op.call { callee := Callee.builtin Builtin.append, args := #[s, x], argTypes := #[t, t] })
    (base : Nat) (e : TypeId) (i : TypeInfo) (size : Nat) (ht : P.underlying t = some (.slice e)) (hi : P.info? e = some i)
    (v : Value) (k : Nat) (xs : List Value) (hs : a.eval s = v) (hown : w.ownsRow base e size v k xs) (hx : a.eval x = .slice none 0 0)
    (h : wpListIn F n P ops Q rest (a.put o.dst v) w) : wpListIn F n P ops Q (o :: rest) a w := by
  refine wpListIn_plain hg fun K hK' => ?_
  have hrun := run_append_owned_none (P := P) (w := w) base t o.type e i size ht hi v k xs hown
  unfold Oper.wpIn
  refine ⟨?_, ?_⟩
  · simp [Oper.about, hop, resolve, Target.leads, Sem.run_pure]
  · rw [Oper.semAt_plain F _ _ (by rw [hop]; intro c hc'; cases hc')]
    simp [execOp, hop, resolve, invoke, builtin, hs, hx, hrun, Result.andThen]
    exact hK' _ _ h
theorem spCells_app : ∀ (l k : List Sp), spCells (l ++ k) = spCells l ++ spCells k
  | [], k => rfl
  | s :: r, k => by simp [spCells, spCells_app r k]
theorem grown_refl (w : World) (row : Option Nat) : w.grownBy w row := ⟨rfl, rfl, rfl, Nat.le_refl _, fun _ _ _ => rfl⟩
/-- Spans appended to spans of one's own. -/
theorem appSpIn {F : Fence} {n0 : Nat} {w : World} {ops : Array Oper} {rest : List Oper} {o : Oper} {a : Act} {Q : Exit → Act → World → Prop} (hgd : o.guard = none) (s x : Operand)
    (ho : o.op = Op.call { callee := Callee.builtin Builtin.append, args := #[s, x], argTypes := #[34, 34] }) (B : Nat) (v : Value) (n : Nat) (l : List Sp) (hs : a.eval s = v) (hown : w.ownsRow B 50 2 v n (spCells l))
    (ao : Option Addr) (m c : Nat) (k : List Sp) (hx : a.eval x = .slice ao m c) (hk : SpAt w ao m c k) (hn : n ≤ 1000000000000) (hm : m ≤ 1000000) (hB : B ≤ w.heap.size)
    (h : ∀ v' w', w'.ownsRow B 50 2 v' (n + m) (spCells (l ++ k)) → w.grownBy w' v.ownBlock → wpListIn F n0 Try.prog ops Q rest (a.put o.dst v') w') : wpListIn F n0 Try.prog ops Q (o :: rest) a w := by
  obtain ⟨i0, hi, hz0, hz1, hz2⟩ := info_parts info50
  cases ao with
  | none =>
    obtain ⟨rfl, rfl⟩ := hk.bare rfl
    obtain rfl : k = [] := List.eq_nil_of_length_eq_zero hk.len
    refine wpListIn_append_own_none hgd s x 34 ho B 50 i0 2 Try.underlying34 hi v n (spCells l) hs hown hx ?_
    exact h v w (by simpa using hown) (grown_refl w _)
  | some ad =>
    refine wpListIn_append_own _ hgd s x 34 ho B 50 i0 (.agg #[.int .i64 0, .int .i64 0]) 2 16 Try.underlying34 hi hz0 hz1 hz2 rfl (by decide) v n (spCells l) hs hown ad m c (spCells k) hx (by rw [spCells_length, hk.len]) (sp_all' hk) (spCells_one k) (by unfold maxLen; omega) (by omega) hB ?_
    intro v' w' hown' hgro _
    exact h v' w' (by rw [spCells_app]; exact hown') hgro
/-- The boxes while collect goes on. -/
structure ClW (w W : World) (b r d g n₁ : Nat) (room : Int) (va : Value) : Prop where
  bw : Below w.heap.size w W
  sz : n₁ ≤ W.heap.size
  b0 : W.heap[b]? = some (.cells #[.int .i64 room] 3 (0, 0))
  b1 : W.heap[r]? = some (.cells #[.slice none 0 0] 34 (0, 0))
  b2 : W.heap[d]? = some (.cells #[.int .i64 0] 29 (0, 0))
  g_ : W.heap[g]? = some (.cells #[va] 34 (0, 0))
  lo : w.heap.size ≤ b
  br : b < r
  rd : r < d
  mid : d < g
  hi : g < n₁
theorem ClW.grown {w W W' : World} {b r d g n₁ : Nat} {room : Int} {va : Value} {row : Option Nat} (h : ClW w W b r d g n₁ room va) (hg : W.grownBy W' row) (hr : ∀ q, row = some q → n₁ ≤ q) : ClW w W' b r d g n₁ room va := by
  have lo := h.lo; have br := h.br; have rd := h.rd; have mid := h.mid; have hi := h.hi
  have bl : ∀ {k : Nat} {o : Obj}, k < n₁ → W.heap[k]? = some o → W'.heap[k]? = some o := fun h1 h2 => (hg.block _ (Array.getElem?_eq_some_iff.1 h2).1 (fun e => by have := hr _ e.symm; omega)).trans h2
  exact ⟨h.bw.grown hg h.bw.size (fun r e => by have := hr r e; omega), Nat.le_trans h.sz hg.size, bl (by omega) h.b0, bl (by omega) h.b1, bl (by omega) h.b2, bl hi h.g_, lo, br, rd, mid, hi⟩
theorem ClW.keep {w W W' : World} {b r d g n₁ : Nat} {room : Int} {va : Value} (h : ClW w W b r d g n₁ room va) (k : Below W.heap.size W W') : ClW w W' b r d g n₁ room va := h.grown (grown_of_below k) (fun r e => by cases e)
theorem ClW.put {w W : World} {b r d g n₁ : Nat} {room : Int} {va : Value} (h : ClW w W b r d g n₁ room va) (u : Value) : ClW w (W.setCell ⟨g, 0, none⟩ u) b r d g n₁ room u := by
  have lo := h.lo; have br := h.br; have rd := h.rd; have mid := h.mid; have hi := h.hi
  have bl : ∀ {k : Nat} {o : Obj}, k ≠ g → W.heap[k]? = some o → (W.setCell ⟨g, 0, none⟩ u).heap[k]? = some o := fun h1 h2 => (Below.heap_setCell W ⟨g, 0, none⟩ u _ h1).trans h2
  exact ⟨h.bw.setCell (p := ⟨g, 0, none⟩) (by show w.heap.size ≤ g; omega) u, by simpa using h.sz, bl (by omega) h.b0, bl (by omega) h.b1, bl (by omega) h.b2, by rw [set_block h.g_]; rfl, lo, br, rd, mid, hi⟩
/-- What the loop keeps. -/
def ClI (S : Int → List Sp) (ok : Int → Prop) (from_ room : Int) (count : Nat) (w : World) (b r d g n₁ : Nat) (s : Nat) (W : World) : Prop := ∃ va, s ≤ count ∧ ClW w W b r d g n₁ room va ∧ W.ownsRow n₁ 50 2 va (colF room (many S from_ s)).length (spCells (colF room (many S from_ s))) ∧ (∀ j, j < s → ok (from_ + (j : Int))) ∧ Fit (colF room (many S from_ s)) ∧ (colF room (many S from_ s)).length ≤ s * 1000000
theorem clI_own (S : Int → List Sp) (ok : Int → Prop) (from_ room : Int) (count : Nat) (w : World) (b r d g n₁ : Nat) : OwnFrom n₁ (ClI S ok from_ room count w b r d g n₁) := fun s X Y row h hg hr => by
  obtain ⟨vc, h1, h2, h3, h4⟩ := h
  exact ⟨vc, h1, h2.grown hg (fun r e => (hr r e).1), own_kept h3 hg (fun r e => (hr r e).2), h4⟩
def ClX (ok : Int → Prop) (from_ : Int) (count : Nat) (w : World) (r d : Nat) (c : Code) (_ : Nat) (W : World) : Prop := c = .ret ∧ (¬ ∀ j, j < count → ok (from_ + (j : Int))) ∧ W.heap[r]? = some (.cells #[.slice none 0 0] 34 (0, 0)) ∧ W.heap[d]? = some (.cells #[.int .i64 20] 29 (0, 0)) ∧ Below w.heap.size w W
theorem clX_own (ok : Int → Prop) (from_ : Int) (count : Nat) (w : World) (r d n₁ : Nat) (h1 : w.heap.size ≤ n₁) (h0 : r < n₁) (h2 : d < n₁) (c : Code) : OwnFrom n₁ (ClX ok from_ count w r d c) := fun s X Y row h hg hr => by
  obtain ⟨a, a2, a3, a4, a5⟩ := h
  have bl : ∀ {k : Nat} {o : Obj}, k < n₁ → X.heap[k]? = some o → Y.heap[k]? = some o := fun h1 h2 => (hg.block _ (Array.getElem?_eq_some_iff.1 h2).1 (fun e => by have := (hr _ e.symm).1; omega)).trans h2
  exact ⟨a, a2, bl (by omega) a3, bl (by omega) a4, a5.grown hg a5.size (fun r e => by have := (hr r e).1; omega)⟩
def ClA (S : Int → List Sp) (ok : Int → Prop) (B bl : Nat) (from_ : Int) (n : Nat) (act : Value × Int → Act) (s : Nat) (x : Value × Int) (a' : Act) (W : World) : Prop := a' = act x ∧ StR S ok B bl from_ n s x W ∧ bl < W.heap.size
theorem clA_own {S : Int → List Sp} {ok : Int → Prop} {B bl : Nat} {from_ : Int} {n : Nat} {act : Value × Int → Act} {C : Nat} (hb : bl < C) (s : Nat) (x : Value × Int) (a' : Act) : OwnFrom C (fun (_ : Unit) W => ClA S ok B bl from_ n act s x a' W) := fun _ X Y row h hg hr => by
  obtain ⟨h1, ⟨h2, h3, h4⟩, h5⟩ := h
  refine ⟨h1, ⟨h2, ?_, fun va q e1 e2 => ?_⟩, Nat.lt_of_lt_of_le h5 hg.size⟩
  · rcases h3 with ⟨a, b, c⟩ | z
    · exact .inl ⟨a, b, own_kept c hg (fun r e => (hr r e).2)⟩
    · exact .inr z
  · refine h4 va q ?_ e2
    rw [← hg.block bl h5 (fun e => by have := (hr _ e.symm).1; omega)]; exact e1
theorem many_snoc (S : Int → List Sp) (from_ : Int) (m : Nat) : many S from_ (m + 1) = many S from_ m ++ [S (from_ + (m : Int))] := by
  unfold many
  rw [List.range_succ, List.map_append]; rfl
theorem colF_step (room : Int) (S : Int → List Sp) (from_ : Int) (s : Nat) : colF room (many S from_ (s + 1)) = colS room (colF room (many S from_ s)) (S (from_ + (s : Int))) := by rw [many_snoc, colF_snoc]
theorem glue_not {a l : List Sp} (h : ∀ a0 x s r, a = a0 ++ [x] → l = s :: r → x.2 + 1 ≠ s.1) : glue a l = (a, l) := by
  cases l with
  | nil => exact glue_nil a
  | cons s r =>
    rcases List.eq_nil_or_concat a with rfl | ⟨a0, x, rfl⟩
    · exact glue_bare _
    · rw [List.concat_eq_append] at h ⊢
      rw [glue_snoc, if_neg (h a0 x s r rfl rfl)]
theorem glue_fit {a l : List Sp} (ha : Fit a) (hl : Fit l) : Fit (glue a l).1 ∧ Fit (glue a l).2 := by
  cases l with
  | nil => rw [glue_nil]; exact ⟨ha, hl⟩
  | cons s r =>
    rcases List.eq_nil_or_concat a with rfl | ⟨a0, x, rfl⟩
    · rw [glue_bare]; exact ⟨ha, hl⟩
    · rw [List.concat_eq_append] at ha ⊢
      rw [glue_snoc]
      split
      · refine ⟨fun z hz => ?_, fun z hz => hl z (List.mem_cons_of_mem _ hz)⟩
        rcases List.mem_append.1 hz with hz | hz
        · exact ha z (List.mem_append.2 (.inl hz))
        · rw [List.mem_singleton.1 hz]
          exact ⟨(ha x (by simp)).1, (hl s List.mem_cons_self).2⟩
      · exact ⟨ha, hl⟩
theorem colS_fit {room : Int} {a l : List Sp} (ha : Fit a) (hl : Fit l) : Fit (colS room a l) := by
  obtain ⟨h1, h2⟩ := glue_fit ha hl
  unfold colS
  split
  · intro z hz
    rcases List.mem_append.1 hz with hz | hz
    · exact h1 z hz
    · exact h2 z hz
  · exact h1
theorem sp_set (a0 : List Sp) (x : Sp) (y : Int) : (spCells (a0 ++ [x])).set (a0.length * 2 + 1) (.int .i64 y) = spCells (a0 ++ [(x.1, y)]) := by
  rw [spCells_snoc, spCells_snoc, List.set_append_right _ _ (by rw [spCells_length]; omega), spCells_length, show a0.length * 2 + 1 - a0.length * 2 = 1 by omega]
  rfl
theorem kz_own {n₀ n₁ bl B : Nat} {A W w1 : World} {t s n : Nat} {v : Value} {vs : List Value} (h : Kz n₀ n₁ bl A W) (o : W.ownsRow B t s v n vs) (hn : n₀ ≤ B) (hx : n₁ ≤ B) (hb : bl < n₁) (hB : B ≤ W.heap.size) (hg : W.grownBy w1 v.ownBlock) : Kz n₀ n₁ bl A w1 := by
  have far : ∀ q, v.ownBlock = some q → B ≤ q := fun q e => (o.lt q e).1
  have blk : ∀ q, q < n₁ → w1.heap[q]? = W.heap[q]? := fun q h1 => hg.block q (by omega) (fun e => by have := far q e.symm; omega)
  refine ⟨h.below.grown hg (by omega) (fun q e => Nat.le_trans hn (far q e)), fun q h1 h2 => (blk q h1).trans (h.keep q h1 h2), fun z va q e1 e2 => ?_⟩
  rw [blk bl hb] at e1
  have a := h.fr z va q e1 e2
  have b := hg.size
  omega
theorem keeps_own {W w1 : World} {B t s n : Nat} {v : Value} {vs : List Value} (h : W.ownsRow B t s v n vs) (hg : W.grownBy w1 v.ownBlock) : KeepsFrom B W w1 := by
  refine ⟨hg.size, fun k o hk h0 hc => ?_⟩
  have lt := (Array.getElem?_eq_some_iff.1 h0).1
  refine (hg.block k lt (fun z => ?_)).trans h0
  rcases h.2 with ⟨q, _⟩ | ⟨g, cap, cur, hv, h2, h3, _⟩
  · rw [q] at z; simp [Value.ownBlock] at z
  · rw [hv] at z
    have : k = g := by simpa [Value.ownBlock] using z
    subst this
    rw [h0] at h3; cases h3; cases hc
theorem SpAt.tail1 {w : World} {b p n c : Nat} {y : Sp} {R : List Sp} (h : SpAt w (some ⟨b, p, none⟩) (n + 1) c (y :: R)) (q : Nat) (hq : 0 < n → q = p + 2) : SpAt w (some ⟨b, q, none⟩) n (c - 1) R := by
  have l := h.len
  have e := h.le
  have t := h.top
  simp at l
  refine ⟨l, by omega, by omega, (by intro z; cases z), fun h0 => ?_⟩
  obtain ⟨b', p', e1, hc⟩ := h.here (by omega)
  cases e1
  refine ⟨b, q, rfl, fun i hi => ?_⟩
  rw [hq h0]
  have := hc (i + 1) (by simp; omega)
  rw [show p + (i + 1) * 2 = p + 2 + i * 2 by omega] at this
  simpa using this
theorem colS_on {room : Int} {a l x y : List Sp} {n : Int} (h : glue a l = (x, y)) (hn : (x.length : Int) = n) (le : n ≤ room) : colS room a l = x ++ y := by unfold colS; rw [h, if_pos (by dsimp only; omega)]
theorem colS_off {room : Int} {a l x y : List Sp} {n : Int} (h : glue a l = (x, y)) (hn : (x.length : Int) = n) (le : ¬ n ≤ room) : colS room a l = x := by unfold colS; rw [h, if_neg (by dsimp only; omega)]
theorem SpAt.apart {w w' : World} {b p n c g : Nat} {l : List Sp} (h : SpAt w (some ⟨b, p, none⟩) n c l) (hg : w.grownBy w' (some g)) (ne : b ≠ g) : SpAt w' (some ⟨b, p, none⟩) n c l :=
  ⟨h.len, h.le, h.top, h.bare, fun h0 => by
    obtain ⟨b', p', e, hc⟩ := h.here h0
    cases e
    have mv : ∀ {q : Nat} {v : Value}, w.cell? ⟨b, q, none⟩ = some v → w'.cell? ⟨b, q, none⟩ = some v := fun z => by
      rw [← z]
      exact World.cell?_of_block (w := w) (hg.block b (cell_here z) (fun e => ne (by cases e; rfl)))
    exact ⟨b, p, rfl, fun i hi => ⟨mv (hc i hi).1, mv (hc i hi).2⟩⟩⟩
/-- The results' cells, written. -/
theorem res_put1 {w0 w : World} {n₀ r d : Nat} {x0 z0 : Value} (h1 : w.heap[r]? = some (.cells #[x0] 34 (0, 0))) (h2 : w.heap[d]? = some (.cells #[z0] 29 (0, 0))) (ne : r ≠ d) (hb : Below n₀ w0 w) (l1 : n₀ ≤ r) (l2 : n₀ ≤ d) (y z : Value) :
    ((w.setCell ⟨r, 0, none⟩ y).setCell ⟨d, 0, none⟩ z).heap[r]? = some (.cells #[y] 34 (0, 0)) ∧ ((w.setCell ⟨r, 0, none⟩ y).setCell ⟨d, 0, none⟩ z).heap[d]? = some (.cells #[z] 29 (0, 0)) ∧
    Below n₀ w0 ((w.setCell ⟨r, 0, none⟩ y).setCell ⟨d, 0, none⟩ z) ∧ ∀ k, k ≠ r → k ≠ d → ((w.setCell ⟨r, 0, none⟩ y).setCell ⟨d, 0, none⟩ z).heap[k]? = w.heap[k]? := by
  refine ⟨(Below.heap_setCell _ ⟨d, 0, none⟩ z r ne).trans (by rw [set_block h1]; rfl), ?_, (hb.setCell (p := ⟨r, 0, none⟩) l1 _).setCell (p := ⟨d, 0, none⟩) l2 _, fun k n1 n2 => (Below.heap_setCell _ ⟨d, 0, none⟩ z k n2).trans (Below.heap_setCell w ⟨r, 0, none⟩ y k n1)⟩
  rw [set_block ((Below.heap_setCell w ⟨r, 0, none⟩ y d (Ne.symm ne)).trans h2)]; rfl
section
attribute [local go_sem] Oper.semAt_some

set_option maxRecDepth 100000 in
set_option maxHeartbeats 4000000 in
theorem sets_in49 (S : Int → List Sp) (ok : Int → Prop) (from_ : Int) (count bf : Nat) (n₀ n₁ bl m : Nat) (hm : 1 ≤ m) (l x y z : Nat) (J Jx : Nat → World → Prop) (W : World)
    (hY : ∀ s v V, J s V → StR S ok n₁ bl from_ count s v V → YieldAt Fence.wide (m - 1) Try.prog l (enc2 v) V fun e V' => (e = .returned (.bool true) ∧ J (s + 1) V' ∧ Kz n₀ n₁ bl V V') ∨ (e = .returned (.bool false) ∧ Jx (s + 1) V'))
    (hJ : AbidesFrom W.heap.size J) (hn : n₀ ≤ W.heap.size) (hn1 : n₁ ≤ W.heap.size) (hr : -9223372036854775808 ≤ from_ ∧ from_ + (count : Int) ≤ 9223372036854775807 ∧ (count : Int) ≤ 9223372036854775807)
    (hT : ∀ W' (j : Int), Kz n₀ n₁ bl W W' → n₁ ≤ W'.heap.size → from_ ≤ j → j < from_ + (count : Int) → Calls Try.prog 49 #[.int .i64 j, .pointer (some ⟨bf, 0, none⟩)] W' fun e V => ∃ v k, e = .returned (.tuple #[v, .int .i64 k]) ∧ Hid (Below W'.heap.size W' V) ∧ Hid (TO S ok W'.heap.size j (v, k) V))
    (hpr : Pr bl W) (hbl : bl < n₁) (hx : x < n₁ ∧ x ≠ bl) (hy : y < n₁ ∧ y ≠ bl) (hz : z < n₁ ∧ z ≠ bl) (bx : W.heap[x]? = some (.cells #[.int .i64 from_] 3 (0, 0))) (by_ : W.heap[y]? = some (.cells #[.int .i64 (count : Int)] 3 (0, 0))) (bz : W.heap[z]? = some (.cells #[.func (.func 49) #[] #[.pointer (some ⟨bf, 0, none⟩)]] 72 (0, 0))) (h0 : J 0 W) :
    CallsIn Fence.wide m Try.prog 52 #[.func (.yield l) #[] #[], .pointer (some ⟨y, 0, none⟩), .pointer (some ⟨z, 0, none⟩), .pointer (some ⟨x, 0, none⟩)] W fun e W' => (∃ v, e = .returned v) ∧ ((∃ s, s = count ∧ J s W') ∨ (∃ s, Jx s W')) := by
  have HY := Lib.hid hY
  have HJ := Lib.hid hJ
  have HT := Lib.hid hT
  have HSZ : Hid (n₀ ≤ W.heap.size ∧ n₁ ≤ W.heap.size) := Lib.hid ⟨hn, hn1⟩
  have HPR := Lib.hid hpr
  have HX := Lib.hid hx
  have HYY := Lib.hid hy
  have HZ := Lib.hid hz
  have BX := Lib.hid bx
  have BY := Lib.hid by_
  have BZ := Lib.hid bz
  obtain ⟨r1, r2, r3⟩ := hr
  clear hY hJ hT hn hn1 hx hy hz bx bz hpr
  refine callsIn_of_wp Try.func52 rfl trivial ?_ rfl
  simp only [Try.ntmps52, List.size_toArray, List.length_cons, List.length_nil, Nat.reduceAdd, Nat.reduceSub, Array.replicate_succ, Array.replicate_zero, List.push_toArray, List.append_toArray, List.nil_append, List.cons_append]
  have c0 := cell_block by_ 0
  clear by_
  gi_wp2
  clear c0
  gi_loopw [5, 7] (fun s5 ii wr => ∃ i : Nat, i ≤ count ∧ ii = .int .i64 i ∧ Hid (J i wr) ∧ Hid (Kz n₀ n₁ bl W wr)) (fun s5 ii _ => count - (intOf ii).toNat)
  case atStart => exact ⟨0, Nat.zero_le _, rfl, Lib.hid h0, Lib.hid (Kz.refl _ _ _ _)⟩
  case round =>
    obtain ⟨i, hi, rfl, HJ0, HB⟩ := hrel
    have i0 : (0 : Int) ≤ (i : Int) := by omega
    by_cases ilt : i < count
    · have i1 : (i : Int) < (count : Int) := by omega
      have i2 : (i : Int) + 1 ≤ 9223372036854775807 := by omega
      have HS2 : Hid (n₀ ≤ wr.heap.size ∧ n₁ ≤ wr.heap.size) := Lib.hid (by have := HB.out.below.size; have := HSZ.out; omega)
      have HC := Lib.hid (HT.out wr (from_ + (i : Int)) HB.out HS2.out.2 (by omega) (by omega))
      have e1 : wr.cell? ⟨z, 0, none⟩ = some (.func (.func 49) #[] #[.pointer (some ⟨bf, 0, none⟩)]) := cell_block (HB.out.at HZ.out.1 HZ.out.2 BZ.out) 0
      have e2 : wr.cell? ⟨x, 0, none⟩ = some (.int .i64 from_) := cell_block (HB.out.at HX.out.1 HX.out.2 BX.out) 0
      have w1 : -9223372036854775808 ≤ from_ + (i : Int) := by omega
      have w2 : from_ + (i : Int) ≤ 9223372036854775807 := by omega
      gi_wp2
      refine ⟨trivial, ?_⟩
      refine (callsIn_wide.2 HC.out).mono ?_
      rintro e w2' ⟨v, k, rfl, q5, HTO⟩
      have HJ2 : Hid (J i w2') := Lib.hid (HJ.out _ _ _ none HJ0.out (grown_of_below q5.out) (fun r e => by cases e))
      have HB2 : Hid (Kz n₀ n₁ bl W w2') := Lib.hid (HB.out.trans (Kz.of HS2.out.1 HS2.out.2 hbl q5.out))
      have HTO2 : Hid (StR S ok n₁ bl from_ count i (v, k) w2') := Lib.hid ⟨ilt, by
        rcases HTO.out with ⟨a, b, c⟩ | h
        · exact .inl ⟨a, b, own_base c HS2.out.2⟩
        · exact .inr h, fun va q e1 e2 e3 => by
        have hq : q < wr.heap.size := by
          rw [q5.out.block bl (by have := HS2.out.2; omega)] at e1
          exact HB.out.fr HPR.out va q e1 e2
        rcases HTO.out with ⟨_, _, c⟩ | ⟨_, _, h⟩
        · have := (c.lt q e3).1; omega
        · rw [show (v, k).1 = v from rfl] at e3; dsimp only at h; rw [h] at e3; simp [Value.ownBlock] at e3⟩
      clear q5 e1 e2 HC HTO
      obtain ⟨fn', tmps, assign, body, hy, hR⟩ := HY.out i (v, k) w2' HJ2.out HTO2.out
      have HRr := Lib.hid hR
      clear hR
      dsimp only [enc2] at hy
      gi_wp2
      refine HRr.out.mono ?_
      rintro e w5 (⟨rfl, hJ3, hk3⟩ | ⟨rfl, hJx3⟩)
      · have HJ5 : Hid (J (i + 1) w5) := Lib.hid hJ3
        have HB5 := Lib.hid (HB2.out.trans hk3)
        clear hy hJ3 hk3 HRr
        gi_wp2
        go_roundw
        case rel => exact ⟨i + 1, by omega, by go_num, HJ5, HB5⟩
        case measure => simp [intOf]; omega
      · have HJx3 := Lib.hid hJx3
        clear hy hJx3 HRr
        gi_wp2
        refine bodyPost_ret (results_none rfl _ _ _) rfl ?_
        exact ⟨⟨_, rfl⟩, .inr ⟨_, HJx3.out⟩⟩
    · obtain rfl : count = i := by omega
      gi_wp2
      go_end0
      exact ⟨⟨_, rfl⟩, .inl ⟨_, rfl, HJ0.out⟩⟩
theorem sets_seq49 (S : Int → List Sp) (ok : Int → Prop) (from_ : Int) (count bf : Nat) (n₀ n₁ bl x y z : Nat) (w1 : World) (hn : n₀ ≤ w1.heap.size) (hn1 : n₁ ≤ w1.heap.size) (hr : -9223372036854775808 ≤ from_ ∧ from_ + (count : Int) ≤ 9223372036854775807 ∧ (count : Int) ≤ 9223372036854775807)
    (hT : ∀ W' (j : Int), Kz n₀ n₁ bl w1 W' → n₁ ≤ W'.heap.size → from_ ≤ j → j < from_ + (count : Int) → Calls Try.prog 49 #[.int .i64 j, .pointer (some ⟨bf, 0, none⟩)] W' fun e V => ∃ v k, e = .returned (.tuple #[v, .int .i64 k]) ∧ Hid (Below W'.heap.size W' V) ∧ Hid (TO S ok W'.heap.size j (v, k) V))
    (hpr : Pr bl w1) (hbl : bl < n₁) (hx : x < n₁ ∧ x ≠ bl) (hy : y < n₁ ∧ y ≠ bl) (hz : z < n₁ ∧ z ≠ bl) (bx : w1.heap[x]? = some (.cells #[.int .i64 from_] 3 (0, 0))) (by_ : w1.heap[y]? = some (.cells #[.int .i64 (count : Int)] 3 (0, 0))) (bz : w1.heap[z]? = some (.cells #[.func (.func 49) #[] #[.pointer (some ⟨bf, 0, none⟩)]] 72 (0, 0))) :
    SeqRel Fence.wide 2 Try.prog 52 #[.pointer (some ⟨y, 0, none⟩), .pointer (some ⟨z, 0, none⟩), .pointer (some ⟨x, 0, none⟩)] enc2 (Kz n₀ n₁ bl) (StR S ok n₁ bl from_ count) (fun s _ => s + 1) (fun s => s = count) 0 w1 := fun l J Jx W hW hJ hJx hY h0 => by
  have lt : ∀ {b : Nat} {o : Obj}, w1.heap[b]? = some o → W.heap[b]? = some o := fun e => (hW.block _ (Array.getElem?_eq_some_iff.1 e).1).trans e
  exact sets_in49 S ok from_ count bf n₀ n₁ bl 2 (by omega) l x y z J Jx W hY hJ (Nat.le_trans hn hW.size) (Nat.le_trans hn1 hW.size) hr (fun W' j k => hT W' j ((Kz.of hn hn1 hbl hW).trans k)) ((Kz.of (n₀ := n₀) hn hn1 hbl hW).fr hpr) hbl hx hy hz (lt bx) (lt by_) (lt bz) h0
end
end Go.Proofs.Ytmjapbjjfhmohaa
