/- T5r, T5, T6, T7 in one. -/
import Derived.Test.YtaobhhgalkkmaaaT4
import Derived.RangeFuncNested
import Derived.RangeFuncBound
import Derived.RangeFuncCalls
import Derived.RangeFuncLeaves
import Derived.Shelf.Abstract
import Derived.Shelf.RegionOpen
import Derived.OwnWalkIn
import Derived.TacticsInMore
import Derived.LoopNIn
import Derived.LoopIn
import Derived.Sort.BigQuietIn
namespace Go.Proofs.Ytaobhhgalkkmaaa
set_option linter.unusedVariables false
set_option linter.unusedSimpArgs false
open Go.ChangeShapes Go.WideShapes Go.ChangeAt Go.RowKit Go.Shelf
attribute [local go_sem] Oper.semAt_some
/-- What an iterator promises: it hands out elements x, one after the other, each one fit for the state s and the world that it is handed out in. -/
def SeqRel {α σ : Type} (F : Fence) (n : Nat) (P : Program) (g : Nat) (lb : Array Value) (encs : α → Array Value) (Kp : World → World → Prop) (Rx : σ → α → World → Prop) (nx : σ → α → σ) (S : σ → Prop) (s0 : σ) (w : World) : Prop :=
  ∀ (l : Nat) (J Jx : σ → World → Prop) (W : World), Below w.heap.size w W → AbidesFrom W.heap.size J → AbidesFrom W.heap.size Jx →
    (∀ s x V, J s V → Rx s x V → YieldAt F (n - 1) P l (encs x) V fun e V' => (e = .returned (.bool true) ∧ J (nx s x) V' ∧ Kp V V') ∨ (e = .returned (.bool false) ∧ Jx (nx s x) V')) →
    J s0 W → CallsIn F n P g (#[.func (.yield l) #[] #[]] ++ lb) W fun e V => (∃ v, e = .returned v) ∧ ((∃ s, S s ∧ J s V) ∨ ∃ s, Jx s V)
/-- How a round may end. -/
def roundEnds {σ : Type} (B : Nat) (Kp : World → World → Prop) (I : σ → World → Prop) (Ix : Code → σ → World → Prop) (s : σ) (W : World) (e : Exit) (W' : World) : Prop :=
  (e = .normal ∧ KeepsFrom B W W' ∧ Kp W W' ∧ I s W') ∨ (∃ c, (e = .ret ∧ c = .ret ∨ ∃ id, e = .exit id ∧ c = .exit id) ∧ KeepsFrom B W W' ∧ Ix c s W')
theorem range_rel {α σ : Type} {F : Fence} {n : Nat} {P : Program} {g : Operand} {ps : Array Tmp} {assign body : Code} {Q : Exit → Act → World → Prop} {a : Act} {w : World}
    (hro : F.round = none) (h1 : 1 ≤ n) {gf : Nat} {lb : Array Value} (hg : a.eval g = .func (.func gf) #[] lb) (hFg : F.fn gf) (eg : ∀ args w, (callFunc gf args).run P w = .ok (.enter gf args) w)
    {encs : α → Array Value} {Kp : World → World → Prop} {Rx : σ → α → World → Prop} {nx : σ → α → σ} {S : σ → Prop} {s0 : σ} {w0 : World} (hseq : SeqRel F (n - 1) P gf lb encs Kp Rx nx S s0 w0)
    (kt : ∀ {A B C : World}, Kp A B → Kp B C → Kp A C) (kb : ∀ (W : World) (l : Nat) (o o' : Obj), w.heap.size ≤ l → W.heap[l]? = some o → o.isCells = false → o.isWalk = false → Kp W (W.putObj l o'))
    (hb : Below w0.heap.size w0 w) (hps : ∀ x, (encs x).size = ps.size)
    (I : σ → World → Prop) (Ix : Code → σ → World → Prop) (hI : OwnFrom w.heap.size I) (hIx : ∀ c, OwnFrom w.heap.size (Ix c)) (h0 : I s0 w)
    (Ax : σ → α → Act → World → Prop) (hAx : ∀ s x a', OwnFrom w.heap.size (fun (_ : Unit) W => Ax s x a' W))
    (hassign : ∀ (l : Nat) s x (W : World) (K : Act → World → Prop), I s W → Rx s x W → (∀ a' V, KeepsFrom w.heap.size W V → Kp W V → I s V → Ax s x a' V → K a' V) →
      assign.wpIn (F.inRound l) (n - 1 - 1) P (Exit.then K (fun _ _ _ => False)) { tmps := (ps.zip (encs x)).foldl (fun t (p, v) => t.setIfInBounds p v) a.tmps, defers := [] } W)
    (hbody : ∀ (l : Nat) s x (a' : Act) (W : World), w.heap.size ≤ l → (∃ r, W.heap[l]? = some (.loop r)) → I s W → Ax s x a' W → body.wpIn (F.inRound l) (n - 1 - 1) P (fun e _ V => roundEnds w.heap.size Kp I Ix (nx s x) W e V) a' W)
    (hdone : ∀ (D : Nat) s (W : World), w.heap.size ≤ D → S s → I s W → W.heap[D]? = some (.deferred (some [])) → Q .normal { a with defers := { target := .collected D, args := #[] } :: a.defers } W)
    (hstop : ∀ (D : Nat) (c : Code) s (W : World), w.heap.size ≤ D → Ix c s W → W.heap[D]? = some (.deferred (some [])) → c.wpIn F n P Q { a with defers := { target := .collected D, args := #[] } :: a.defers } W) :
    (Code.rangeFunc g ps assign body).wpIn F n P Q a w := by
  refine wpIn_rangeFunc (fun fn hfn => ?_)
  rw [hro]
  -- the two blocks of the loop itself: D, the calls that are put off; D + 1, its record
  obtain ⟨D, hD⟩ : ∃ D, D = w.heap.size := ⟨_, rfl⟩
  obtain ⟨rec, hrec⟩ : ∃ rec : LoopState → Option Code → Loop, rec = fun st pe => { state := st, pending := pe, fn, tmps := a.tmps, params := ps, assign, body, defers := D } := ⟨_, rfl⟩
  obtain ⟨V, hV⟩ : ∃ V, (w.alloc (.deferred (some []))).alloc (.loop (rec .ready none)) = V := ⟨_, rfl⟩
  have below : Below w.heap.size w V := by rw [← hV]; exact ((Below.refl _ w).alloc (Nat.le_refl _) _).alloc (by simp) _
  have sizeV : V.heap.size = D + 2 := by rw [← hV, hD]; simp
  have recV : V.heap[D + 1]? = some (.loop (rec .ready none)) := by
    rw [← hV, hD]
    have q := World.alloc_heap_new (w.alloc (.deferred (some []))) (.loop (rec .ready none))
    rw [World.size_alloc] at q; exact q
  have defV : V.heap[D]? = some (.deferred (some [])) := by
    rw [← hV, hD]
    exact (Below.heap_alloc _ _ _ (by simp)).trans (World.alloc_heap_new w _)
  have invV : I s0 V := by rw [← hV]; exact hI.alloc _ (hI.alloc _ h0)
  have rows : ∀ {A : World} {row : Option Nat}, (∀ r, row = some r → V.heap.size ≤ r ∧ ∃ o : Obj, A.heap[r]? = some o ∧ o.isWalk = true) → ∀ r, row = some r → w.heap.size ≤ r ∧ ∃ o : Obj, A.heap[r]? = some o ∧ o.isCells = false := fun hr r e => by
    obtain ⟨k, o, ho, hw⟩ := hr r e
    exact ⟨by omega, o, ho, Obj.not_cells_of_walk hw⟩
  refine ⟨D + 1, [{ target := .collected D, args := #[] }], V, { target := .fn (.func gf) lb, args := #[.func (.yield (D + 1)) #[] #[]] }, V, gf, #[.func (.yield (D + 1)) #[] #[]] ++ lb, V, ?_, ?_, ?_, ?_, fun _ => h1, ?_⟩
  · rw [← hV, hrec, hD]; exact run_enterLoop_outer _ _ _ _ _
  · simp only [resolve, hg]; simp [go_sem]
  · intro f hf; simp [Target.leads] at hf; subst hf; exact hFg
  · simp [invoke, go_sem, eg]
  have walk : ∀ {A B : World} {row : Option Nat} {k : Nat} {o : Obj}, A.grownBy B row → (∀ r, row = some r → V.heap.size ≤ r ∧ ∃ o : Obj, A.heap[r]? = some o ∧ o.isWalk = true) → A.heap[k]? = some o → o.isWalk = false → B.heap[k]? = some o := fun hgr hr h hw => (grownBy_keeps hgr (fun r e => (hr r e).2) h hw).trans h
  refine (hseq (D + 1) (fun s W => I s W ∧ W.heap[D + 1]? = some (.loop (rec .ready none)) ∧ W.heap[D]? = some (.deferred (some [])))
    (fun s W => ∃ c, Ix c s W ∧ W.heap[D + 1]? = some (.loop (rec .done (some c))) ∧ W.heap[D]? = some (.deferred (some []))) V (hb.trans (below.mono hb.size))
    (fun s A B row hs hgr hr => ⟨hI s A B row hs.1 hgr (rows hr), walk hgr hr hs.2.1 rfl, walk hgr hr hs.2.2 rfl⟩)
    (fun s A B row ⟨c, x1, x2, x3⟩ hgr hr => ⟨c, hIx c s A B row x1 hgr (rows hr), walk hgr hr x2 rfl, walk hgr hr x3 rfl⟩) ?_ ⟨invV, recV, defV⟩).mono ?_
  · rintro s x W ⟨i1, i2, i3⟩ hx
    have hy := run_yield (P := P) (args := encs x) i2 (by rw [hrec]; exact hps x)
    rw [hrec] at hy
    refine ⟨fn, _, assign, body, hy, roundIn_of_wpIn hfn (hassign _ s x W _ i1 hx (fun a' U ku kpu iu au => ?_))⟩
    have u2 := ku.same _ _ (by omega) i2 rfl
    have u3 := ku.same _ _ (by omega) i3 rfl
    have lt : D + 1 < U.heap.size := (Array.getElem?_eq_some_iff.1 u2).1
    obtain ⟨busy, hbusy⟩ : ∃ b : Obj, b = .loop { rec .ready none with state := .busy } := ⟨_, rfl⟩
    obtain ⟨U2, hU2⟩ : ∃ U2, U.putObj (D + 1) busy = U2 := ⟨_, rfl⟩
    have v2 : U2.heap[D + 1]? = some busy := by rw [← hU2]; exact World.putObj_heap_same lt
    have v3 : U2.heap[D]? = some (.deferred (some [])) := by rw [← hU2]; exact (World.putObj_heap_other (by omega)).trans u3
    have kpb : Kp U U2 := by rw [← hU2]; exact kb _ _ _ _ (by omega) u2 rfl rfl
    refine ⟨U2, by rw [← hU2, hbusy]; exact run_beginRound u2 (by rw [hrec]), ?_⟩
    refine wpIn_mono (hbody _ s x a' U2 (by omega) ⟨_, by rw [v2, hbusy]⟩ (by rw [← hU2]; exact hI.putObj _ iu (by omega) u2 rfl) (by rw [← hU2]; exact (hAx s x a').putObj (s := ()) _ au (by omega) u2 rfl)) ?_
    have ends : ∀ (jump : Option Code) (X : World), KeepsFrom w.heap.size U2 X → X.heap[D + 1]? = some busy ∧ (Instr.endRound (D + 1) jump).run P X = .ok (.bool jump.isNone) (X.putObj (D + 1) (.loop (rec (if jump.isNone then .ready else .done) jump))) ∧ (X.putObj (D + 1) (.loop (rec (if jump.isNone then .ready else .done) jump))).heap[D + 1]? = some (.loop (rec (if jump.isNone then .ready else .done) jump)) ∧ (X.putObj (D + 1) (.loop (rec (if jump.isNone then .ready else .done) jump))).heap[D]? = some (.deferred (some [])) := fun jump X kx => by
      have y2 := kx.same _ _ (by omega) v2 (by rw [hbusy]; rfl)
      have y3 := kx.same _ _ (by omega) v3 rfl
      have y4 := y2
      rw [hbusy] at y4
      have q := run_endRound (P := P) jump y4
      rw [hrec] at q ⊢
      exact ⟨y2, q, World.putObj_heap_same (Array.getElem?_eq_some_iff.1 y2).1, (World.putObj_heap_other (by omega)).trans y3⟩
    rintro e a3 X hp
    rcases hp with ⟨rfl, kx, kpx, ix⟩ | ⟨c, he, kx, ixx⟩
    · obtain ⟨y1, y2, y3, y4⟩ := ends none X kx
      exact ⟨_, _, y2, .inl ⟨rfl, ⟨hI.putObj _ ix (by omega) y1 (by rw [hbusy]; rfl), y3, y4⟩, kt kpu (kt (kt kpb kpx) (kb _ _ _ _ (by omega) y1 (by rw [hbusy]; rfl) (by rw [hbusy]; rfl)))⟩⟩
    · obtain ⟨y1, y2, y3, y4⟩ := ends (some c) X kx
      have fin : (∃ v V', (Instr.endRound (D + 1) (some c)).run P X = .ok v V' ∧ ((Ending.returned v = Ending.returned (.bool true) ∧ (I (nx s x) V' ∧ V'.heap[D + 1]? = some (.loop (rec .ready none)) ∧ V'.heap[D]? = some (.deferred (some []))) ∧ Kp W V') ∨ (Ending.returned v = Ending.returned (.bool false) ∧ ∃ c, Ix c (nx s x) V' ∧ V'.heap[D + 1]? = some (.loop (rec .done (some c))) ∧ V'.heap[D]? = some (.deferred (some []))))) :=
        ⟨_, _, y2, .inr ⟨rfl, c, (hIx c).putObj _ ixx (by omega) y1 (by rw [hbusy]; rfl), y3, y4⟩⟩
      rcases he with ⟨rfl, rfl⟩ | ⟨id, rfl, rfl⟩
      · exact fin
      · exact fin
  · rintro e W ⟨⟨v, rfl⟩, ⟨s, hs, i1, i2, i3⟩ | ⟨s, c, i1, i2, i3⟩⟩
    · refine ⟨none, _, by have q := run_endLoop (P := P) i2 (by rw [hrec]; simp); rw [hrec] at q; exact q, ?_⟩
      exact hdone D s _ (by omega) hs (hI.putObj _ i1 (by omega) i2 rfl) ((World.putObj_heap_other (by omega)).trans i3)
    · refine ⟨some c, _, by have q := run_endLoop (P := P) i2 (by rw [hrec]; simp); rw [hrec] at q; exact q, ?_⟩
      exact hstop D c s _ (by omega) ((hIx c).putObj _ i1 (by omega) i2 rfl) ((World.putObj_heap_other (by omega)).trans i3)
attribute [local go_sem] Oper.semAt_some
/-- What lay below, and two boxes, lie as they lay. -/
structure Ky (n₀ x y : Nat) (W W' : World) : Prop where
  below : Below n₀ W W'
  x_ : W'.heap[x]? = W.heap[x]?
  y_ : W'.heap[y]? = W.heap[y]?
theorem Ky.refl (n₀ x y : Nat) (W : World) : Ky n₀ x y W W := ⟨Below.refl _ _, rfl, rfl⟩
theorem Ky.trans {n₀ x y : Nat} {A B C : World} (h : Ky n₀ x y A B) (k : Ky n₀ x y B C) : Ky n₀ x y A C := ⟨h.below.trans k.below, k.x_.trans h.x_, k.y_.trans h.y_⟩
theorem Ky.keep {n₀ x y : Nat} {A B : World} (hn : n₀ ≤ A.heap.size) (hx : x < A.heap.size) (hy : y < A.heap.size) (h : Below A.heap.size A B) : Ky n₀ x y A B := ⟨h.mono hn, h.block x hx, h.block y hy⟩
attribute [local go_sem] Oper.semAt_some
theorem free_blk {w : World} {b : Nat} {c : Array Value} {t : TypeId} (h : w.heap[b]? = some (.cells c t (0, 0))) (k : Nat) : w.frozen? ⟨b, k, none⟩ = false := by
  unfold World.frozen?; rw [h]; simp
/-- A row of one's own stays, whatever is put where no cells are. -/
theorem own_kept {W W' : World} {B t s n : Nat} {v : Value} {vs : List Value} {row : Option Nat} (h : W.ownsRow B t s v n vs) (hg : W.grownBy W' row) (hr : ∀ r, row = some r → ∃ o : Obj, W.heap[r]? = some o ∧ o.isCells = false) : W'.ownsRow B t s v n vs := by
  refine ⟨h.1, ?_⟩
  rcases h.2 with q | ⟨g, cap, cur, hv, h2, h3, h4, h5, h6, h7⟩
  · exact .inl q
  · exact .inr ⟨g, cap, cur, hv, h2, (hg.block g (Array.getElem?_eq_some_iff.1 h3).1 (fun e => by
      obtain ⟨o, ho, hc⟩ := hr g e.symm
      rw [h3] at ho; cases ho; cases hc)).trans h3, h4, h5, h6, h7⟩
theorem ky_put {n₀ x y : Nat} {w : World} (h : n₀ ≤ w.heap.size) (hx : x < w.heap.size) (hy : y < w.heap.size) (W : World) (l : Nat) (o o' : Obj) (hl : w.heap.size ≤ l) (h0 : W.heap[l]? = some o) (h1 : o.isCells = false) (h2 : o.isWalk = false) : Ky n₀ x y W (W.putObj l o') :=
  ⟨belowK_b (w := w) h W l o o' hl h0 h1 h2, World.putObj_heap_other (by omega), World.putObj_heap_other (by omega)⟩
theorem keeps_app {W w1 : World} {B t s n : Nat} {v : Value} {vs : List Value} {tmp : Obj} (h : W.ownsRow B t s v n vs) (hg : (W.alloc tmp).grownBy w1 v.ownBlock) : KeepsFrom B W w1 := by
  refine ⟨by have := hg.size; simp at this; omega, fun k o hk h0 hc => ?_⟩
  have lt := (Array.getElem?_eq_some_iff.1 h0).1
  have e : (W.alloc tmp).heap[k]? = some o := (Below.heap_alloc W tmp k lt).trans h0
  refine (hg.block k (by simp; omega) (fun z => ?_)).trans e
  rcases h.2 with ⟨q, _⟩ | ⟨g, cap, cur, hv, h2, h3, _⟩
  · rw [q] at z; simp [Value.ownBlock] at z
  · rw [hv] at z
    have : k = g := by simpa [Value.ownBlock] using z
    subst this
    rw [h0] at h3; cases h3; cases hc
theorem ints_snoc (xs : List Int) (x : Int) : ints xs ++ [.int .i64 x] = ints (xs ++ [x]) := by simp [ints]
theorem ky_set {n₀ x y : Nat} {A W : World} (h : Ky n₀ x y A W) {q : Nat} (hq : n₀ ≤ q) (hx : q ≠ x) (hy : q ≠ y) (v : Value) : Ky n₀ x y A (W.setCell ⟨q, 0, none⟩ v) :=
  ⟨h.below.setCell (p := ⟨q, 0, none⟩) hq v, (Below.heap_setCell W ⟨q, 0, none⟩ v x (Ne.symm hx)).trans h.x_, (Below.heap_setCell W ⟨q, 0, none⟩ v y (Ne.symm hy)).trans h.y_⟩
theorem ky_app {n₀ x y B : Nat} {A W w1 : World} {t s n : Nat} {v : Value} {vs : List Value} {tmp : Obj} (h : Ky n₀ x y A W) (o : W.ownsRow B t s v n vs) (hn : n₀ ≤ B) (hx : x < B) (hy : y < B) (hB : B ≤ W.heap.size) (hg : (W.alloc tmp).grownBy w1 v.ownBlock) : Ky n₀ x y A w1 := by
  have far : ∀ q, v.ownBlock = some q → B ≤ q := fun q e => (o.lt q e).1
  have k : Below W.heap.size W (W.alloc tmp) := (Below.refl _ W).alloc (Nat.le_refl _) _
  refine ⟨(h.below.trans (k.mono (Nat.le_trans hn hB))).grown hg (by simp; omega) (fun q e => Nat.le_trans hn (far q e)), ?_, ?_⟩
  · exact ((hg.block x (by simp; omega) (fun e => by have := far x e.symm; omega)).trans (k.block x (by omega))).trans h.x_
  · exact ((hg.block y (by simp; omega) (fun e => by have := far y e.symm; omega)).trans (k.block y (by omega))).trans h.y_
attribute [local go_sem] Oper.semAt_some
theorem keepsFrom_below {B : Nat} {W W' : World} (h : Below W.heap.size W W') : KeepsFrom B W W' := ⟨h.size, fun k o _ h0 _ => (h.block k (Array.getElem?_eq_some_iff.1 h0).1).trans h0⟩
attribute [local go_sem] Oper.semAt_some
/-- The indices below k that fail. -/
def Fl (p : Nat → Bool) (k : Nat) : List Int := ((List.range k).filter p).map (fun i : Nat => (i : Int))
theorem fl_zero (p : Nat → Bool) : Fl p 0 = [] := rfl
theorem fl_yes {p : Nat → Bool} {k : Nat} (h : p k = true) : Fl p (k + 1) = Fl p k ++ [(k : Int)] := by
  unfold Fl; rw [List.range_succ, List.filter_append, List.map_append]; simp [h]
theorem fl_not {p : Nat → Bool} {k : Nat} (h : p k = false) : Fl p (k + 1) = Fl p k := by
  unfold Fl; rw [List.range_succ, List.filter_append, List.map_append]; simp [h]
theorem fl_len (p : Nat → Bool) (k : Nat) : (Fl p k).length ≤ k := by
  unfold Fl; rw [List.length_map]; exact Nat.le_trans (List.length_filter_le _ _) (by simp)
def flv (z : Int) : Array Value := #[.int .i64 z]
def FlR (p : Nat → Bool) (kn : Nat) (pre : List Int) (z : Int) (_ : World) : Prop := ∃ k : Nat, k < kn ∧ p k = true ∧ z = (k : Int) ∧ pre = Fl p k
theorem failing_any (n : Nv) (ao : Option Addr) (m c : Nat) (w : World) : Calls Try.prog 27 #[n.v, .slice ao m c] w fun e w' => ∃ x y, e = .returned (.func (.func 42) #[] #[.pointer (some ⟨x, 0, none⟩), .pointer (some ⟨y, 0, none⟩)]) ∧ Hid (w.heap.size ≤ x ∧ w.heap.size ≤ y ∧ w'.heap[x]? = some (.cells n.box 38 (0, 0)) ∧ w'.heap[y]? = some (.cells #[.slice ao m c] 39 (0, 0))) ∧ Hid (Below w.heap.size w w') := by
  obtain ⟨vars, fo, fn, fc, ko, kn, kc, fs, ks⟩ := n
  obtain ⟨b, hb⟩ : ∃ b, w.heap.size = b := ⟨_, rfl⟩
  show Calls Try.prog 27 #[.agg #[.int .i64 vars, .slice fo fn fc, .slice ko kn kc], .slice ao m c] w _
  go_enter Try.func27, Try.ntmps27
  go_wp2
  have H : Hid (((w.alloc (.cells #[.int .i64 vars, .slice fo fn fc, .slice ko kn kc] 38)).alloc (.cells #[.slice ao m c] 39)).heap[b]? = some (.cells #[.int .i64 vars, .slice fo fn fc, .slice ko kn kc] 38 (0, 0)) ∧ ((w.alloc (.cells #[.int .i64 vars, .slice fo fn fc, .slice ko kn kc] 38)).alloc (.cells #[.slice ao m c] 39)).heap[b + 1]? = some (.cells #[.slice ao m c] 39 (0, 0))) := Lib.hid ⟨(Below.heap_alloc _ _ _ (by simp; omega)).trans (heap_at hb), heap_at (by simp; omega)⟩
  have H2 : Hid (Below w.heap.size w ((w.alloc (.cells #[.int .i64 vars, .slice fo fn fc, .slice ko kn kc] 38)).alloc (.cells #[.slice ao m c] 39))) := Lib.hid (((Below.refl _ w).alloc (Nat.le_refl _) _).alloc (by simp) _)
  generalize (w.alloc (.cells #[.int .i64 vars, .slice fo fn fc, .slice ko kn kc] 38)).alloc (.cells #[.slice ao m c] 39) = wf at H H2 ⊢
  try rw [hb]
  go_returns
  rw [hb] at H2
  exact ⟨b, b + 1, rfl, Lib.hid ⟨Nat.le_refl _, by omega, H.out.1, H.out.2⟩, H2⟩
set_option maxRecDepth 100000 in
set_option maxHeartbeats 4000000 in
theorem failing_in (n : Nv) (ao : Option Addr) (tn tc : Nat) (ts : List Int) (hrt : ∀ F ∈ n.fs, F.Rt ∧ F.Ok ∧ F.cn ≤ 10000) (hown : Own n.vars ts) (p : Nat → Bool) (hp : ∀ i (h : i < n.ks.length), p i = true ↔ ¬ Met n.fs n.vars ts n.ks[i]) (m : Nat) (hm : 1 ≤ m) (l x y n₀ : Nat) (J Jx : List Int → World → Prop) (W : World)
    (hY : ∀ pre z W, J pre W → FlR p n.kn pre z W → YieldAt Fence.wide (m - 1) Try.prog l (flv z) W fun e W' =>
      (e = .returned (.bool true) ∧ J (pre ++ [z]) W' ∧ Ky n₀ x y W W') ∨ (e = .returned (.bool false) ∧ Jx (pre ++ [z]) W'))
    (hJ : AbidesFrom W.heap.size J) (hn : n₀ ≤ W.heap.size) (hx : x < W.heap.size) (hy' : y < W.heap.size)
    (hk : ∀ W', Ky n₀ x y W W' → n.At W' ∧ IzAt W' ao tn tc ts ∧ W'.heap[x]? = some (.cells n.box 38 (0, 0)) ∧ W'.heap[y]? = some (.cells #[.slice ao tn tc] 39 (0, 0))) (h0 : J [] W) :
    CallsIn Fence.wide m Try.prog 42 #[.func (.yield l) #[] #[], .pointer (some ⟨x, 0, none⟩), .pointer (some ⟨y, 0, none⟩)] W fun e W' => (∃ v, e = .returned v) ∧
      ((∃ xs, xs = Fl p n.kn ∧ J xs W') ∨ (∃ pre, Jx pre W')) := by
  have HK := Lib.hid hk
  have HY := Lib.hid hY
  have HJ := Lib.hid hJ
  have HPP := Lib.hid hp
  have HME := Lib.hid (fun c W (h1 : n.At W) (h2 : IzAt W ao tn tc ts) r hr => met_any n c ao tn tc ts W h1 h2 hrt hown r hr)
  have HSZ : Hid (n₀ ≤ W.heap.size ∧ x < W.heap.size ∧ y < W.heap.size) := Lib.hid ⟨hn, hx, hy'⟩
  clear hk hY hJ hp hn hx hy' hrt hown
  obtain ⟨vars, fo, fn, fc, ko, kn, kc, fs, ks⟩ := n
  have HK : Hid (∀ W', Ky n₀ x y W W' → Nv.At ⟨vars, fo, fn, fc, ko, kn, kc, fs, ks⟩ W' ∧ IzAt W' ao tn tc ts ∧ W'.heap[x]? = some (.cells #[.int .i64 vars, .slice fo fn fc, .slice ko kn kc] 38 (0, 0)) ∧ W'.heap[y]? = some (.cells #[.slice ao tn tc] 39 (0, 0))) := HK
  have LK : Hid (ks.length = kn) := Lib.hid (HK.out W (Ky.refl _ _ _ _)).1.cons.len
  have hkn : kn ≤ 9223372036854775807 := Nat.le_trans (HK.out W (Ky.refl _ _ _ _)).1.cons.le (HK.out W (Ky.refl _ _ _ _)).1.cons.top
  refine callsIn_of_wp Try.func42 rfl trivial ?_ rfl
  simp only [Try.ntmps42, List.size_toArray, List.length_cons, List.length_nil, Nat.reduceAdd, Nat.reduceSub, Array.replicate_succ, Array.replicate_zero, List.push_toArray, List.append_toArray, List.nil_append, List.cons_append]
  have c0 := cell_block (HK.out W (Ky.refl _ _ _ _)).2.2.1 2
  gi_wp2
  clear c0
  gi_loopw [9] (fun ii wr => ∃ i : Nat, i ≤ kn ∧ ii = .int .i64 i ∧ Hid (J (Fl p i) wr) ∧ Hid (Ky n₀ x y W wr)) (fun ii _ => kn - (intOf ii).toNat)
  case atStart => exact ⟨0, Nat.zero_le _, rfl, Lib.hid h0, Lib.hid (Ky.refl _ _ _ _)⟩
  case round =>
    obtain ⟨i, hi, rfl, HJ0, HB⟩ := hrel
    have HC := Lib.hid (HK.out _ HB.out)
    have HS2 : Hid (n₀ ≤ wr.heap.size ∧ x < wr.heap.size ∧ y < wr.heap.size) := Lib.hid ⟨Nat.le_trans HSZ.out.1 HB.out.below.size, (Array.getElem?_eq_some_iff.1 HC.out.2.2.1).1, (Array.getElem?_eq_some_iff.1 HC.out.2.2.2).1⟩
    by_cases ilt : i < kn
    · have hil : i < ks.length := by rw [LK.out]; exact ilt
      obtain ⟨g, q, e1, hc⟩ := HC.out.1.cons.here (show 0 < kn by omega)
      obtain rfl : ko = some ⟨g, q, none⟩ := e1
      obtain ⟨k0, k1, k2, k3, k4, k5, k6⟩ := hc i hil
      have HPI : Hid (p i = true ↔ ¬ Met fs vars ts ks[i]) := Lib.hid (HPP.out i hil)
      obtain ⟨c, hcc⟩ : ∃ c, ks[i] = c := ⟨_, rfl⟩
      rw [hcc] at HPI k0 k1 k2 k3 k4 k5 k6
      clear hcc hc
      obtain ⟨cx, cy, cf, lo, hi', hl, hh⟩ := c
      dsimp only at k0 k1 k2 k3 k4 k5 k6
      obtain ⟨rm, hrm⟩ : ∃ r : Bool, r = true ↔ Met fs vars ts ⟨cx, cy, cf, lo, hi', hl, hh⟩ := by classical exact ⟨decide _, decide_eq_true_iff⟩
      have HRM : Hid (p i = !rm) := Lib.hid (by
        have h := HPI.out
        rw [← hrm] at h
        cases rm <;> cases hq : p i <;> simp_all)
      have HMC := Lib.hid (fun W h1 h2 => HME.out ⟨cx, cy, cf, lo, hi', hl, hh⟩ W h1 h2 rm hrm)
      have HMC : Hid (∀ W, Nv.At ⟨vars, fo, fn, fc, some ⟨g, q, none⟩, kn, kc, fs, ks⟩ W → IzAt W ao tn tc ts → Calls Try.prog 25 #[.agg #[.int .i64 vars, .slice fo fn fc, .slice (some ⟨g, q, none⟩) kn kc], .agg #[.int .i64 cx, .int .i64 cy, .int .i64 cf, .int .i64 lo, .int .i64 hi', .bool hl, .bool hh], .slice ao tn tc] W fun e w' => e = .returned (.bool rm) ∧ Hid (Below W.heap.size W w')) := HMC
      have i0 : (0 : Int) ≤ (i : Int) := by omega
      have i1 : (i : Int) < (kn : Int) := by omega
      obtain ⟨b5, hb5⟩ : ∃ b, wr.heap.size = b := ⟨_, rfl⟩
      obtain ⟨wb, hwb⟩ : ∃ v, wr.alloc (.cells #[.int .i64 cx, .int .i64 cy, .int .i64 cf, .int .i64 lo, .int .i64 hi', .bool hl, .bool hh] 42) = v := ⟨_, rfl⟩
      have KB : Below wr.heap.size wr wb := by rw [← hwb]; exact (Below.refl _ _).alloc (Nat.le_refl _) _
      have H5 : Hid (wb.heap[b5]? = some (.cells #[.int .i64 cx, .int .i64 cy, .int .i64 cf, .int .i64 lo, .int .i64 hi', .bool hl, .bool hh] 42 (0, 0))) := Lib.hid (by rw [← hwb]; exact heap_at hb5)
      have HJ1 : Hid (J (Fl p i) wb) := Lib.hid (HJ.out _ _ _ none HJ0.out (grown_of_below KB) (fun r e => by cases e))
      have HB1 : Hid (Ky n₀ x y W wb) := Lib.hid (HB.out.trans (Ky.keep HS2.out.1 HS2.out.2.1 HS2.out.2.2 KB))
      have HC1 := Lib.hid (HK.out _ HB1.out)
      have HS3 : Hid (n₀ ≤ wb.heap.size ∧ x < wb.heap.size ∧ y < wb.heap.size) := Lib.hid ⟨Nat.le_trans HSZ.out.1 HB1.out.below.size, (Array.getElem?_eq_some_iff.1 HC1.out.2.2.1).1, (Array.getElem?_eq_some_iff.1 HC1.out.2.2.2).1⟩
      clear hrm hil KB
      have e0 : wb.cell? ⟨x, 0, none⟩ = some (.int .i64 vars) := cell_block HC1.out.2.2.1 0
      have e1 : wb.cell? ⟨x, 1, none⟩ = some (.slice fo fn fc) := cell_block HC1.out.2.2.1 1
      have e2 : wb.cell? ⟨x, 2, none⟩ = some (.slice (some ⟨g, q, none⟩) kn kc) := cell_block HC1.out.2.2.1 2
      have y0 : wb.cell? ⟨y, 0, none⟩ = some (.slice ao tn tc) := cell_block HC1.out.2.2.2 0
      have f0 : wb.cell? ⟨b5, 0, none⟩ = some (.int .i64 cx) := cell_block H5.out 0
      have f1 : wb.cell? ⟨b5, 1, none⟩ = some (.int .i64 cy) := cell_block H5.out 1
      have f2 : wb.cell? ⟨b5, 2, none⟩ = some (.int .i64 cf) := cell_block H5.out 2
      have f3 : wb.cell? ⟨b5, 3, none⟩ = some (.int .i64 lo) := cell_block H5.out 3
      have f4 : wb.cell? ⟨b5, 4, none⟩ = some (.int .i64 hi') := cell_block H5.out 4
      have f5 : wb.cell? ⟨b5, 5, none⟩ = some (.bool hl) := cell_block H5.out 5
      have f6 : wb.cell? ⟨b5, 6, none⟩ = some (.bool hh) := cell_block H5.out 6
      gi_wp2
      refine ⟨trivial, ?_⟩
      refine (callsIn_wide.2 (HMC.out _ HC1.out.1 HC1.out.2.1)).mono ?_
      rintro e w2 ⟨rfl, q5⟩
      have HJ2 : Hid (J (Fl p i) w2) := Lib.hid (HJ.out _ _ _ none HJ1.out (grown_of_below q5.out) (fun r e => by cases e))
      have HB2 : Hid (Ky n₀ x y W w2) := Lib.hid (HB1.out.trans (Ky.keep HS3.out.1 HS3.out.2.1 HS3.out.2.2 q5.out))
      clear hwb hb5 q5 k0 k1 k2 k3 k4 k5 k6 e0 e1 e2 y0 f0 f1 f2 f3 f4 f5 f6 H5 HMC HC1
      cases rm
      · have HPY : Hid (p i = true) := HRM
        have HFY : Hid (Fl p (i + 1) = Fl p i ++ [(i : Int)]) := Lib.hid (fl_yes HPY.out)
        obtain ⟨fn', tmps, assign, body, hy, hR⟩ := HY.out (Fl p i) (i : Int) w2 HJ2.out ⟨i, ilt, HPY.out, rfl, rfl⟩
        have HRr := Lib.hid hR
        clear hR
        dsimp only [flv] at hy
        gi_wp2
        refine HRr.out.mono ?_
        rintro e w5 (⟨rfl, hJ3, hk3⟩ | ⟨rfl, hJx3⟩)
        · have HJ5 : Hid (J (Fl p (i + 1)) w5) := Lib.hid (by rw [HFY.out]; exact hJ3)
          have HB5 := Lib.hid (HB2.out.trans hk3)
          clear hy hJ3 hk3 HRr
          gi_wp2
          go_roundw
          case rel => exact ⟨i + 1, by omega, by go_num, HJ5, HB5⟩
          case measure => simp [intOf]; omega
        · have HJx3 := Lib.hid hJx3
          clear hy hJx3 HRr
          gi_wp2
          refine bodyPost_ret (results_none rfl _ _ _) rfl ?_
          exact ⟨⟨_, rfl⟩, .inr ⟨_, HJx3.out⟩⟩
      · have HFN : Hid (Fl p (i + 1) = Fl p i) := Lib.hid (fl_not HRM.out)
        have HJ5 : Hid (J (Fl p (i + 1)) w2) := Lib.hid (by rw [HFN.out]; exact HJ2.out)
        gi_wp2
        refine ⟨fun _ h => (by cases h), ?_⟩
        gi_wp2
        go_roundw
        case rel => exact ⟨i + 1, by omega, by go_num, HJ5, HB2⟩
        case measure => simp [intOf]; omega
    · obtain rfl : kn = i := by omega
      gi_wp2
      go_end0
      exact ⟨⟨_, rfl⟩, .inl ⟨_, rfl, HJ0.out⟩⟩
theorem failing_seq (n : Nv) (ao : Option Addr) (tn tc : Nat) (ts : List Int) (hrt : ∀ F ∈ n.fs, F.Rt ∧ F.Ok ∧ F.cn ≤ 10000) (hown : Own n.vars ts) (p : Nat → Bool) (hp : ∀ i (h : i < n.ks.length), p i = true ↔ ¬ Met n.fs n.vars ts n.ks[i]) (x y n₀ : Nat) (w1 : World) (hn : n₀ ≤ w1.heap.size) (hN : ∀ W, Below n₀ w1 W → n.At W ∧ IzAt W ao tn tc ts) (hx : w1.heap[x]? = some (.cells n.box 38 (0, 0))) (hy : w1.heap[y]? = some (.cells #[.slice ao tn tc] 39 (0, 0))) :
    SeqRel Fence.wide 2 Try.prog 42 #[.pointer (some ⟨x, 0, none⟩), .pointer (some ⟨y, 0, none⟩)] flv (Ky n₀ x y) (FlR p n.kn) (fun s x => s ++ [x]) (fun xs => xs = Fl p n.kn) [] w1 := fun l J Jx W hW hJ hJx hY h0 => by
  have lx := (Array.getElem?_eq_some_iff.1 hx).1
  have ly := (Array.getElem?_eq_some_iff.1 hy).1
  have ex := (hW.block x lx).trans hx
  have ey := (hW.block y ly).trans hy
  exact failing_in n ao tn tc ts hrt hown p hp 2 (by omega) l x y n₀ J Jx W (fun pre z V a b => hY pre z V a b) hJ (Nat.le_trans hn hW.size) (Nat.lt_of_lt_of_le lx hW.size) (Nat.lt_of_lt_of_le ly hW.size) (fun W' k => ⟨(hN W' ((hW.mono hn).trans k.below)).1, (hN W' ((hW.mono hn).trans k.below)).2, k.x_.trans ex, k.y_.trans ey⟩) h0
attribute [local go_sem] Oper.semAt_some
/-- What Fails answers, in memory of its own. -/
def FailsOut (n : Nv) (ts : List Int) (p : Nat → Bool) (B : Nat) (e : Ending) (w : World) : Prop := ∃ (v : Value) (xs : List Int) (k : Int), e = .returned (.tuple #[v, .int .i64 k]) ∧ ((¬ Own n.vars ts ∧ k = 230 ∧ xs = []) ∨ (Own n.vars ts ∧ k = 0 ∧ xs = Fl p n.kn)) ∧ w.ownsRow B 3 1 v xs.length (ints xs)
/-- The boxes within the loop. -/
structure FW (w : World) (bl B : Nat) (v : Value) (W : World) : Prop where
  bw : Below w.heap.size w W
  sz : B ≤ W.heap.size
  wl : w.heap.size ≤ bl
  lt : bl < B
  h : W.heap[bl]? = some (.cells #[v] 39 (0, 0))
theorem FW.grown {w W W' : World} {bl B : Nat} {v : Value} {row : Option Nat} (h : FW w bl B v W) (hg : W.grownBy W' row) (hr : ∀ r, row = some r → B ≤ r) : FW w bl B v W' :=
  ⟨h.bw.grown hg h.bw.size (fun r e => by have := hr r e; have := h.wl; have := h.lt; omega), Nat.le_trans h.sz hg.size, h.wl, h.lt, (hg.block _ (Array.getElem?_eq_some_iff.1 h.h).1 (fun e => by have := hr _ e.symm; have := h.lt; omega)).trans h.h⟩
theorem FW.put {w W : World} {bl B : Nat} {v : Value} (h : FW w bl B v W) (u : Value) : FW w bl B u (W.setCell ⟨bl, 0, none⟩ u) :=
  ⟨h.bw.setCell (p := ⟨bl, 0, none⟩) h.wl _, by simpa using h.sz, h.wl, h.lt, by rw [set_block h.h]; rfl⟩
def FsI (w : World) (bl B kn : Nat) (pre : List Int) (W : World) : Prop := ∃ v, pre.length ≤ kn ∧ FW w bl B v W ∧ W.ownsRow B 3 1 v pre.length (ints pre)
theorem fsI_own (w : World) (bl B kn : Nat) : OwnFrom B (FsI w bl B kn) := fun s X Y row h hg hr => by
  obtain ⟨v, h1, h2, h3⟩ := h
  exact ⟨v, h1, h2.grown hg (fun r e => (hr r e).1), own_kept h3 hg (fun r e => (hr r e).2)⟩
def FsAx (kn : Nat) (act : Int → Act) (s : List Int) (x : Int) (a' : Act) (_ : World) : Prop := a' = act x ∧ s.length < kn
theorem fsAx_own {kn : Nat} {act : Int → Act} {B : Nat} (s : List Int) (x : Int) (a' : Act) : OwnFrom B (fun (_ : Unit) W => FsAx kn act s x a' W) := fun _ X Y row h hg hr => h
theorem flR_len {p : Nat → Bool} {kn : Nat} {pre : List Int} {z : Int} {W : World} (h : FlR p kn pre z W) : pre.length < kn := by
  obtain ⟨k, h1, h2, h3, h4⟩ := h
  rw [h4]; exact Nat.lt_of_le_of_lt (fl_len p k) h1
set_option maxRecDepth 100000 in
set_option maxHeartbeats 4000000 in
theorem fails_any (n : Nv) (ao : Option Addr) (tn tc : Nat) (ts : List Int) (w : World) (hn : n.At w) (ht : IzAt w ao tn tc ts) (hrt : ∀ F ∈ n.fs, F.Rt ∧ F.Ok ∧ F.cn ≤ 10000) (hkn : n.kn ≤ 1000000) (p : Nat → Bool) (hp : ∀ i (h : i < n.ks.length), p i = true ↔ ¬ Met n.fs n.vars ts n.ks[i]) : Calls Try.prog 13 #[n.v, .slice ao tn tc] w fun e w' => FailsOut n ts p w.heap.size e w' ∧ Hid (Below w.heap.size w w') := by
  obtain ⟨vars, fo, fn, fc, ko, kn, kc, fs, ks⟩ := n
  have HNA : Hid (Nv.At ⟨vars, fo, fn, fc, ko, kn, kc, fs, ks⟩ w) := Lib.hid hn
  have HT := Lib.hid ht
  have HRT : Hid (∀ F ∈ fs, F.Rt ∧ F.Ok ∧ F.cn ≤ 10000) := Lib.hid hrt
  have hkn : kn ≤ 1000000 := hkn
  obtain ⟨ro, hro⟩ : ∃ r : Bool, r = true ↔ Own vars ts := by classical exact ⟨decide _, decide_eq_true_iff⟩
  have HO := Lib.hid hro
  have HPP : Hid (∀ i (h : i < ks.length), p i = true ↔ ¬ Met fs vars ts ks[i]) := Lib.hid hp
  have CO := Lib.hid (fun W (h : IzAt W ao tn tc ts) => belong_any ⟨vars, fo, fn, fc, ko, kn, kc, fs, ks⟩ ao tn tc ts W h ro hro)
  have CFA := Lib.hid (fun W => failing_any ⟨vars, fo, fn, fc, ko, kn, kc, fs, ks⟩ ao tn tc W)
  clear hn ht hrt hp hro
  obtain ⟨b, hb⟩ : ∃ b, w.heap.size = b := ⟨_, rfl⟩
  obtain ⟨wb, hwb⟩ : ∃ wb, w.alloc (.cells #[.int .i64 vars, .slice fo fn fc, .slice ko kn kc] 38) = wb := ⟨_, rfl⟩
  have KB : Hid (Below w.heap.size w wb) := Lib.hid (by rw [← hwb]; exact (Below.refl _ _).alloc (Nat.le_refl _) _)
  have HN : Hid (wb.heap[b]? = some (.cells #[.int .i64 vars, .slice fo fn fc, .slice ko kn kc] 38 (0, 0))) := Lib.hid (by rw [← hwb]; exact heap_at hb)
  show Calls Try.prog 13 #[.agg #[.int .i64 vars, .slice fo fn fc, .slice ko kn kc], .slice ao tn tc] w _
  refine (callsIn_wide (n := 3)).1 ?_
  refine callsIn_of_wp_marks Try.func13 rfl trivial ?_ rfl
  simp only [Try.ntmps13, List.size_toArray, List.length_cons, List.length_nil, Nat.reduceAdd, Nat.reduceSub, Array.replicate_succ, Array.replicate_zero, List.push_toArray, List.append_toArray, List.nil_append, List.cons_append]
  refine wpIn_wide.2 ?_
  go_upto_region 1 with fail
  clear hwb hb
  have e0 : wb.cell? ⟨b, 0, none⟩ = some (.int .i64 vars) := cell_block HN.out 0
  have e1 : wb.cell? ⟨b, 1, none⟩ = some (.slice fo fn fc) := cell_block HN.out 1
  have e2 : wb.cell? ⟨b, 2, none⟩ = some (.slice ko kn kc) := cell_block HN.out 2
  go_wp2_with fail
  (with_reducible refine (CO.out _ (HT.out.keep KB.out)).mono ?_)
  rintro e w1 ⟨rfl, q⟩
  have KW := Lib.hid (KB.out.trans (q.out.mono KB.out.size))
  have HN1 := Lib.hid (heap_keep HN.out q.out)
  clear q e0 e1 e2 HN KB CO
  cases ro
  · have HNO : Hid (¬ Own vars ts) := Lib.hid (fun z => by have := HO.out.2 z; cases this)
    go_wp2
    exact ⟨.tuple #[.slice none 0 0, .int .i64 230], by simp [results, Try.results13, go_sem], ⟨⟨.slice none 0 0, [], 230, rfl, .inl ⟨HNO.out, rfl, rfl⟩, World.ownsRow_nil _ _ _ _⟩, KW⟩⟩
  · have HOW := Lib.hid (HO.out.1 (by first | rfl | trivial))
    obtain ⟨bl, hbl⟩ : ∃ b, w1.heap.size = b := ⟨_, rfl⟩
    obtain ⟨w2, hw2⟩ : ∃ v, w1.alloc (.cells #[.slice none 0 0] 39) = v := ⟨_, rfl⟩
    have K2 : Below w1.heap.size w1 w2 := by rw [← hw2]; exact (Below.refl _ _).alloc (Nat.le_refl _) _
    have HL2 : Hid (w2.heap[bl]? = some (.cells #[.slice none 0 0] 39 (0, 0))) := Lib.hid (by rw [← hw2]; exact heap_at hbl)
    have HN2 := Lib.hid (heap_keep HN1.out K2)
    have HWL : Hid (w.heap.size ≤ bl) := Lib.hid (by rw [← hbl]; exact KW.out.size)
    have KW2 := Lib.hid (KW.out.trans (K2.mono KW.out.size))
    go_upto_region 4 with fail
    clear hbl hw2 K2 HN1 KW
    have e0 : w2.cell? ⟨b, 0, none⟩ = some (.int .i64 vars) := cell_block HN2.out 0
    have e1 : w2.cell? ⟨b, 1, none⟩ = some (.slice fo fn fc) := cell_block HN2.out 1
    have e2 : w2.cell? ⟨b, 2, none⟩ = some (.slice ko kn kc) := cell_block HN2.out 2
    go_wp2_with fail
    (with_reducible refine (CFA.out _).mono ?_)
    rintro e W0 ⟨x, y, rfl, HXY, q⟩
    have HL0 := Lib.hid (heap_keep HL2.out q.out)
    have KW0 := Lib.hid (KW2.out.trans (q.out.mono KW2.out.size))
    have HSX : Hid (x < W0.heap.size ∧ y < W0.heap.size ∧ bl < x ∧ bl < y ∧ bl < W0.heap.size) := Lib.hid (by
      have l1 := (Array.getElem?_eq_some_iff.1 HXY.out.2.2.1).1
      have l2 := (Array.getElem?_eq_some_iff.1 HXY.out.2.2.2).1
      have l3 := (Array.getElem?_eq_some_iff.1 HL2.out).1
      have := HXY.out.1; have := HXY.out.2.1; omega)
    have HX0 := Lib.hid HXY.out.2.2.1
    have HY0 := Lib.hid HXY.out.2.2.2
    clear q e0 e1 e2 HXY HL2 HN2 KW2 CFA
    go_wp2_with fail
    refine (wpIn_wide (n := 3)).1 ?_
    refine range_rel rfl (by omega) (gf := 42) (lb := #[.pointer (some ⟨x, 0, none⟩), .pointer (some ⟨y, 0, none⟩)]) rfl trivial (enters_of Try.func42 (by kernel_rfl) rfl)
      (failing_seq ⟨vars, fo, fn, fc, ko, kn, kc, fs, ks⟩ ao tn tc ts HRT.out HOW.out p HPP.out x y w.heap.size W0 KW0.out.size (fun W k => ⟨HNA.out.keep (KW0.out.trans k), HT.out.keep (KW0.out.trans k)⟩) HX0.out HY0.out) (fun p q => p.trans q) (ky_put KW0.out.size HSX.out.1 HSX.out.2.1) (Below.refl _ _) (fun _ => rfl)
      (FsI w bl W0.heap.size kn)
      (fun _ _ _ => False)
      (fsI_own w bl W0.heap.size kn) (fun _ _ _ _ _ h _ _ => h)
      ⟨.slice none 0 0, Nat.zero_le _, ⟨KW0.out, Nat.le_refl _, HWL.out, HSX.out.2.2.2.2, HL0.out⟩, World.ownsRow_nil _ _ _ _⟩
      (FsAx kn (fun z => { tmps := #[.agg #[.int .i64 vars, .slice fo fn fc, .slice ko kn kc], .slice ao tn tc, .pointer (some ⟨b, 0, none⟩), undef, .slice none 0 0, .int .i64 0, .pointer (some ⟨bl, 0, none⟩), .int .i64 z, .agg #[.int .i64 vars, .slice fo fn fc, .slice ko kn kc], .slice ao tn tc, .bool true, .bool false, .agg #[.int .i64 vars, .slice fo fn fc, .slice ko kn kc], .slice ao tn tc, .func (.func 42) #[] #[.pointer (some ⟨x, 0, none⟩), .pointer (some ⟨y, 0, none⟩)], .int .i64 z, undef, undef, undef, undef, undef], defers := [] })) (fun s x a' => fsAx_own s x a') ?assign ?body ?done ?stop
    case assign =>
      rintro lp pre z W K hI0 hR0 hK
      have HI0 := Lib.hid hI0
      have HR0 := Lib.hid hR0
      clear hI0 hR0
      unfold flv
      gi_wp2
      exact hK _ _ ((KeepsOthers.refl _).from _) (Ky.refl _ _ _ _) HI0.out ⟨rfl, flR_len HR0.out⟩
    case body =>
      rintro lp pre z a' W hlp hr hI hA
      obtain ⟨v, hlen, hw, hown⟩ := hI
      obtain ⟨ha, hlt⟩ := hA
      subst ha
      have HWB := Lib.hid hw
      have HOWN := Lib.hid hown
      have HLT := Lib.hid hlt
      clear hlp hr hlen hw hown hlt
      have p6 : W.cell? ⟨bl, 0, none⟩ = some v := cell_block HWB.out.h 0
      have c6 : W.frozen? ⟨bl, 0, none⟩ = false := free_blk HWB.out.h 0
      obtain ⟨i0, hi0, hz0, hz1, hz2⟩ := info_parts info3
      have HI3 := Lib.hid hi0
      have HZ0 := Lib.hid hz0
      have HZ1 := Lib.hid hz1
      have HZ2 := Lib.hid hz2
      clear hi0 hz0 hz1 hz2
      gi_wp2_with (gi_at_builtin; refine wpListIn_append_own _ rfl _ _ 39 rfl W0.heap.size 3 i0 (.int .i64 0) 1 8 Try.underlying39 HI3.out HZ0.out HZ1.out HZ2.out rfl (by decide) _ _ _ rfl (keepB HOWN.out ((Below.refl _ _).alloc (Nat.le_refl _) _)) ⟨W.heap.size, 0, none⟩ 1 1 [.int .i64 z] rfl rfl (World.news_of_block (cs := #[.int .i64 z]) (t := 3) (fr := (0, 0)) (World.alloc_heap_new W _)) (by intro y hy; simp at hy; subst hy; rfl) (by unfold maxLen; have := HLT.out; omega) (by have := HLT.out; omega) (by have := HWB.out.sz; simp; omega) ?_; intro v' w8 hown' hgrow _; obtain ⟨g', cap', rfl⟩ := ownsRow_succ hown'; have HA8 := Lib.hid ((HWB.out.grown (row := none) (W' := W.alloc (.cells #[.int .i64 z] 3)) (grown_of_below ((Below.refl _ W).alloc (Nat.le_refl _) _)) (fun r e => by cases e)).grown hgrow (fun r e => (HOWN.out.lt r e).1)); have HN8 := Lib.hid hown'; have HG8 := Lib.hid hgrow; have p6' : w8.cell? ⟨bl, 0, none⟩ = some v := cell_block HA8.out.h 0; have c6' : w8.frozen? ⟨bl, 0, none⟩ = false := free_blk HA8.out.h 0; clear hown' hgrow)
      have HFO := Lib.hid (HA8.out.put (.slice (some ⟨g', 0, none⟩) (pre.length + 1) cap'))
      have HFR : Hid ((w8.setCell ⟨bl, 0, none⟩ (.slice (some ⟨g', 0, none⟩) (pre.length + 1) cap')).ownsRow W0.heap.size 3 1 (.slice (some ⟨g', 0, none⟩) (pre.length + 1) cap') (pre ++ [z]).length (ints (pre ++ [z]))) := Lib.hid (by
        have q := own_off HN8.out (grown_cell w8 ⟨bl, 0, none⟩ (.slice (some ⟨g', 0, none⟩) (pre.length + 1) cap')) (fun r e => by cases e; exact .inl HSX.out.2.2.2.2)
        rw [ints_snoc] at q
        rw [List.length_append]; exact q)
      exact .inl ⟨rfl, (keeps_app HOWN.out HG8.out).trans ((KeepsOthers.setCell _ _ _).from _), ky_set (ky_app (Ky.refl _ _ _ _) HOWN.out KW0.out.size HSX.out.1 HSX.out.2.1 HWB.out.sz HG8.out) HWL.out (by have := HSX.out; omega) (by have := HSX.out; omega) _, _, by rw [List.length_append]; exact HLT.out, HFO.out, HFR.out⟩
    case done =>
      rintro D s W hD hS hI hK
      obtain ⟨v, hlen, hw, hown⟩ := hI
      subst hS
      have HWB := Lib.hid hw
      have HOWN := Lib.hid hown
      have HKD := Lib.hid hK
      have HDD := Lib.hid hD
      clear hD hlen hw hown hK
      have p6 : W.cell? ⟨bl, 0, none⟩ = some v := cell_block HWB.out.h 0
      try gi_wp2
      try go_wp2
      refine ⟨by simp, .inl ⟨_, _, rfl, run_takeDeferred HKD.out, ?_⟩⟩
      exact ⟨.tuple #[v, .int .i64 0], by simp [results, Try.results13, go_sem], ⟨⟨v, Fl p kn, 0, rfl, .inr ⟨HOW.out, rfl, rfl⟩, own_base (ownsRow_putObj HOWN.out _ HKD.out rfl) KW0.out.size⟩, Lib.hid (HWB.out.bw.trans (belowK_b (w := W0) KW0.out.size W D _ _ HDD.out HKD.out rfl rfl))⟩⟩
    case stop =>
      rintro D c s W hD hX hK
      exact hX.elim
attribute [local go_sem] Oper.semAt_some
/-- Ticks hold. -/
def HoldsN (n : Nv) (ts : List Int) : Prop := Own n.vars ts ∧ ∀ c ∈ n.ks, Met n.fs n.vars ts c
theorem fl_nil {p : Nat → Bool} {kn : Nat} (h : Fl p kn = []) : ∀ k, k < kn → p k = false := fun k hk => by
  cases e : p k with
  | false => rfl
  | true =>
    have : (k : Int) ∈ Fl p kn := List.mem_map.2 ⟨k, List.mem_filter.2 ⟨List.mem_range.2 hk, e⟩, rfl⟩
    rw [h] at this; cases this
structure HWi (w : World) (br B : Nat) (W : World) : Prop where
  bw : Below w.heap.size w W
  sz : B ≤ W.heap.size
  wl : w.heap.size ≤ br
  lt : br < B
  h : W.heap[br]? = some (.cells #[.bool false] 4 (0, 0))
theorem HWi.grown {w W W' : World} {br B : Nat} {row : Option Nat} (h : HWi w br B W) (hg : W.grownBy W' row) (hr : ∀ r, row = some r → B ≤ r) : HWi w br B W' :=
  ⟨h.bw.grown hg h.bw.size (fun r e => by have := hr r e; have := h.wl; have := h.lt; omega), Nat.le_trans h.sz hg.size, h.wl, h.lt, (hg.block _ (Array.getElem?_eq_some_iff.1 h.h).1 (fun e => by have := hr _ e.symm; have := h.lt; omega)).trans h.h⟩
def HoI (w : World) (br B : Nat) (pre : List Int) (W : World) : Prop := pre = [] ∧ HWi w br B W
def HoX (p : Nat → Bool) (kn : Nat) (w : World) (br B : Nat) (c : Code) (W : World) : Prop := c = .ret ∧ HWi w br B W ∧ ∃ k, k < kn ∧ p k = true
theorem hoI_own (w : World) (br B : Nat) : OwnFrom B (HoI w br B) := fun s X Y row h hg hr => ⟨h.1, h.2.grown hg (fun r e => (hr r e).1)⟩
theorem hoX_own (p : Nat → Bool) (kn : Nat) (w : World) (br B : Nat) (c : Code) : OwnFrom B (fun (_ : List Int) W => HoX p kn w br B c W) := fun s X Y row h hg hr => ⟨h.1, h.2.1.grown hg (fun r e => (hr r e).1), h.2.2⟩
def HoAx (p : Nat → Bool) (kn : Nat) (act : Int → Act) (s : List Int) (x : Int) (a' : Act) (_ : World) : Prop := a' = act x ∧ ∃ k, k < kn ∧ p k = true
theorem hoAx_own {p : Nat → Bool} {kn : Nat} {act : Int → Act} {B : Nat} (s : List Int) (x : Int) (a' : Act) : OwnFrom B (fun (_ : Unit) W => HoAx p kn act s x a' W) := fun _ X Y row h hg hr => h
theorem set_false {W : World} {br : Nat} (h : W.heap[br]? = some (.cells #[.bool false] 4 (0, 0))) (u : Bool) : (W.setCell ⟨br, 0, none⟩ (.bool u)).heap[br]? = some (.cells #[.bool u] 4 (0, 0)) := by rw [set_block h]; rfl
set_option maxRecDepth 100000 in
set_option maxHeartbeats 4000000 in
theorem holds_any (n : Nv) (ao : Option Addr) (tn tc : Nat) (ts : List Int) (w : World) (hn : n.At w) (ht : IzAt w ao tn tc ts) (hrt : ∀ F ∈ n.fs, F.Rt ∧ F.Ok ∧ F.cn ≤ 10000) (hkn : n.kn ≤ 1000000) (p : Nat → Bool) (hp : ∀ i (h : i < n.ks.length), p i = true ↔ ¬ Met n.fs n.vars ts n.ks[i]) (r : Bool) (hr : r = true ↔ HoldsN n ts) : Calls Try.prog 15 #[n.v, .slice ao tn tc] w fun e w' => e = .returned (.bool r) ∧ Hid (Below w.heap.size w w') := by
  obtain ⟨vars, fo, fn, fc, ko, kn, kc, fs, ks⟩ := n
  have HNA : Hid (Nv.At ⟨vars, fo, fn, fc, ko, kn, kc, fs, ks⟩ w) := Lib.hid hn
  have HT := Lib.hid ht
  have HRT : Hid (∀ F ∈ fs, F.Rt ∧ F.Ok ∧ F.cn ≤ 10000) := Lib.hid hrt
  have hkn : kn ≤ 1000000 := hkn
  obtain ⟨ro, hro⟩ : ∃ r : Bool, r = true ↔ Own vars ts := by classical exact ⟨decide _, decide_eq_true_iff⟩
  have HO := Lib.hid hro
  have HPP : Hid (∀ i (h : i < ks.length), p i = true ↔ ¬ Met fs vars ts ks[i]) := Lib.hid hp
  have CO := Lib.hid (fun W (h : IzAt W ao tn tc ts) => belong_any ⟨vars, fo, fn, fc, ko, kn, kc, fs, ks⟩ ao tn tc ts W h ro hro)
  have CFA := Lib.hid (fun W => failing_any ⟨vars, fo, fn, fc, ko, kn, kc, fs, ks⟩ ao tn tc W)
  clear hn ht hrt hp hro
  have HR : Hid (r = true ↔ HoldsN ⟨vars, fo, fn, fc, ko, kn, kc, fs, ks⟩ ts) := Lib.hid hr
  clear hr
  obtain ⟨b, hb⟩ : ∃ b, w.heap.size = b := ⟨_, rfl⟩
  obtain ⟨br, hbr⟩ : ∃ br, b + 1 = br := ⟨_, rfl⟩
  obtain ⟨wb, hwb⟩ : ∃ wb, (w.alloc (.cells #[.int .i64 vars, .slice fo fn fc, .slice ko kn kc] 38)).alloc (.cells #[.bool false] 4) = wb := ⟨_, rfl⟩
  have KB : Hid (Below w.heap.size w wb) := Lib.hid (by rw [← hwb]; exact ((Below.refl _ _).alloc (Nat.le_refl _) _).alloc (by simp) _)
  have HN : Hid (wb.heap[b]? = some (.cells #[.int .i64 vars, .slice fo fn fc, .slice ko kn kc] 38 (0, 0))) := Lib.hid (by rw [← hwb]; exact (Below.heap_alloc _ _ _ (by simp; omega)).trans (heap_at hb))
  have HBR : Hid (wb.heap[br]? = some (.cells #[.bool false] 4 (0, 0))) := Lib.hid (by rw [← hwb]; exact heap_at (by simp; omega))
  have HWL : Hid (w.heap.size ≤ br) := Lib.hid (by omega)
  show Calls Try.prog 15 #[.agg #[.int .i64 vars, .slice fo fn fc, .slice ko kn kc], .slice ao tn tc] w _
  refine (callsIn_wide (n := 3)).1 ?_
  refine callsIn_of_wp_marks Try.func15 rfl trivial ?_ rfl
  simp only [Try.ntmps15, List.size_toArray, List.length_cons, List.length_nil, Nat.reduceAdd, Nat.reduceSub, Array.replicate_succ, Array.replicate_zero, List.push_toArray, List.append_toArray, List.nil_append, List.cons_append]
  refine wpIn_wide.2 ?_
  go_upto_region 1 with fail
  clear hwb hb hbr
  have e0 : wb.cell? ⟨b, 0, none⟩ = some (.int .i64 vars) := cell_block HN.out 0
  have e1 : wb.cell? ⟨b, 1, none⟩ = some (.slice fo fn fc) := cell_block HN.out 1
  have e2 : wb.cell? ⟨b, 2, none⟩ = some (.slice ko kn kc) := cell_block HN.out 2
  go_wp2_with fail
  (with_reducible refine (CO.out _ (HT.out.keep KB.out)).mono ?_)
  rintro e w1 ⟨rfl, q⟩
  have KW := Lib.hid (KB.out.trans (q.out.mono KB.out.size))
  have HN1 := Lib.hid (heap_keep HN.out q.out)
  have HBR1 := Lib.hid (heap_keep HBR.out q.out)
  clear q e0 e1 e2 HN HBR KB CO
  cases ro
  · have HF : Hid (false = r) := Lib.hid (by cases r with | false => rfl | true => have := HO.out.2 (HR.out.1 rfl).1; cases this)
    have r0 : w1.cell? ⟨br, 0, none⟩ = some (.bool false) := cell_block HBR1.out 0
    have c0 : w1.frozen? ⟨br, 0, none⟩ = false := free_blk HBR1.out 0
    have HKS : Hid (Below w.heap.size w (w1.setCell ⟨br, 0, none⟩ (.bool false))) := Lib.hid (KW.out.setCell (p := ⟨br, 0, none⟩) HWL.out _)
    have HRS : Hid ((w1.setCell ⟨br, 0, none⟩ (.bool false)).cell? ⟨br, 0, none⟩ = some (.bool false)) := Lib.hid (cell_block (set_false HBR1.out false) 0)
    go_wp2
    have r1 := HRS.out
    exact ⟨.bool false, by simp [results, Try.results15, go_sem, r1], ⟨congrArg _ (congrArg _ HF.out), HKS⟩⟩
  · have HOW := Lib.hid (HO.out.1 (by first | rfl | trivial))
    go_upto_region 3 with fail
    have e0 : w1.cell? ⟨b, 0, none⟩ = some (.int .i64 vars) := cell_block HN1.out 0
    have e1 : w1.cell? ⟨b, 1, none⟩ = some (.slice fo fn fc) := cell_block HN1.out 1
    have e2 : w1.cell? ⟨b, 2, none⟩ = some (.slice ko kn kc) := cell_block HN1.out 2
    go_wp2_with fail
    (with_reducible refine (CFA.out _).mono ?_)
    rintro e W0 ⟨x, y, rfl, HXY, q⟩
    have HL0 := Lib.hid (heap_keep HBR1.out q.out)
    have KW0 := Lib.hid (KW.out.trans (q.out.mono KW.out.size))
    have HSX : Hid (x < W0.heap.size ∧ y < W0.heap.size ∧ br < W0.heap.size) := Lib.hid ⟨(Array.getElem?_eq_some_iff.1 HXY.out.2.2.1).1, (Array.getElem?_eq_some_iff.1 HXY.out.2.2.2).1, (Array.getElem?_eq_some_iff.1 HL0.out).1⟩
    have HX0 := Lib.hid HXY.out.2.2.1
    have HY0 := Lib.hid HXY.out.2.2.2
    clear q e0 e1 e2 HXY HBR1 HN1 KW CFA
    go_wp2_with fail
    refine (wpIn_wide (n := 3)).1 ?_
    refine range_rel rfl (by omega) (gf := 42) (lb := #[.pointer (some ⟨x, 0, none⟩), .pointer (some ⟨y, 0, none⟩)]) rfl trivial (enters_of Try.func42 (by kernel_rfl) rfl)
      (failing_seq ⟨vars, fo, fn, fc, ko, kn, kc, fs, ks⟩ ao tn tc ts HRT.out HOW.out p HPP.out x y w.heap.size W0 KW0.out.size (fun W k => ⟨HNA.out.keep (KW0.out.trans k), HT.out.keep (KW0.out.trans k)⟩) HX0.out HY0.out) (fun p q => p.trans q) (ky_put KW0.out.size HSX.out.1 HSX.out.2.1) (Below.refl _ _) (fun _ => rfl)
      (HoI w br W0.heap.size)
      (fun c _ W => HoX p kn w br W0.heap.size c W)
      (hoI_own w br W0.heap.size) (fun c => hoX_own p kn w br W0.heap.size c)
      ⟨rfl, KW0.out, Nat.le_refl _, HWL.out, HSX.out.2.2, HL0.out⟩
      (HoAx p kn (fun z => { tmps := #[.agg #[.int .i64 vars, .slice fo fn fc, .slice ko kn kc], .slice ao tn tc, .pointer (some ⟨b, 0, none⟩), undef, .pointer (some ⟨br, 0, none⟩), .agg #[.int .i64 vars, .slice fo fn fc, .slice ko kn kc], .slice ao tn tc, .bool true, .bool false, .agg #[.int .i64 vars, .slice fo fn fc, .slice ko kn kc], .slice ao tn tc, .func (.func 42) #[] #[.pointer (some ⟨x, 0, none⟩), .pointer (some ⟨y, 0, none⟩)], .int .i64 z], defers := [] })) (fun s x a' => hoAx_own s x a') ?assign ?body ?done ?stop
    case assign =>
      rintro lp pre z W K hI0 hR0 hK
      have HI0 := Lib.hid hI0
      have HR0 := Lib.hid hR0
      clear hI0 hR0
      unfold flv
      gi_wp2
      exact hK _ _ ((KeepsOthers.refl _).from _) (Ky.refl _ _ _ _) HI0.out ⟨rfl, by obtain ⟨k, h1, h2, _⟩ := HR0.out; exact ⟨k, h1, h2⟩⟩
    case body =>
      rintro lp pre z a' W hlp hr hI hA
      obtain ⟨hpre, hw⟩ := hI
      obtain ⟨ha, hex⟩ := hA
      subst ha
      have HWB := Lib.hid hw
      have HEX := Lib.hid hex
      clear hlp hr hpre hw hex
      have p6 : W.cell? ⟨br, 0, none⟩ = some (.bool false) := cell_block HWB.out.h 0
      have c6 : W.frozen? ⟨br, 0, none⟩ = false := free_blk HWB.out.h 0
      have HS : Hid (HWi w br W0.heap.size (W.setCell ⟨br, 0, none⟩ (.bool false))) := Lib.hid ⟨HWB.out.bw.setCell (p := ⟨br, 0, none⟩) HWB.out.wl _, by simpa using HWB.out.sz, HWB.out.wl, HWB.out.lt, set_false HWB.out.h false⟩
      gi_wp2
      exact .inr ⟨.ret, .inl ⟨rfl, rfl⟩, (KeepsOthers.setCell _ _ _).from _, rfl, HS.out, HEX.out⟩
    case done =>
      rintro D s W hD hS hI hK
      obtain ⟨hs, hw⟩ := hI
      have HZ : Hid (Fl p kn = []) := Lib.hid (hS.symm.trans hs)
      have HWB := Lib.hid hw
      have HKD := Lib.hid hK
      have HDD := Lib.hid hD
      clear hD hS hs hw hK
      have HF : Hid (true = r) := Lib.hid ((HR.out.2 ⟨HOW.out, fun c hc => by
        obtain ⟨i, hi, rfl⟩ := List.getElem_of_mem hc
        have q := fl_nil HZ.out i (by have := HNA.out.cons.len; simp only at this hi; omega)
        have q2 := HPP.out i hi
        rw [q] at q2
        classical
        exact Classical.byContradiction (fun z => by have := q2.2 z; cases this)⟩).symm)
      have p6 : W.cell? ⟨br, 0, none⟩ = some (.bool false) := cell_block HWB.out.h 0
      have c6 : W.frozen? ⟨br, 0, none⟩ = false := free_blk HWB.out.h 0
      have nD : ¬ br = D := by have := HDD.out; have := HSX.out.2.2; omega
      have HRC : Hid ((W.setCell ⟨br, 0, none⟩ (.bool true)).cell? ⟨br, 0, none⟩ = some (.bool true)) := Lib.hid (cell_block (set_false HWB.out.h true) 0)
      have HBW : Hid (Below w.heap.size w (W.setCell ⟨br, 0, none⟩ (.bool true))) := Lib.hid (HWB.out.bw.setCell (p := ⟨br, 0, none⟩) HWB.out.wl _)
      have HKE : Hid ((W.setCell ⟨br, 0, none⟩ (.bool true)).heap[D]? = some (.deferred (some []))) := Lib.hid ((Below.heap_setCell W ⟨br, 0, none⟩ _ D (fun z => nD z.symm)).trans HKD.out)
      try gi_wp2
      try go_wp2
      refine ⟨by simp, .inl ⟨_, _, rfl, run_takeDeferred HKE.out, ?_⟩⟩
      have r0 : ((W.setCell ⟨br, 0, none⟩ (.bool true)).putObj D (.deferred none)).cell? ⟨br, 0, none⟩ = some (.bool true) := by rw [← HRC.out]; exact World.cell?_of_block (w := (W.setCell ⟨br, 0, none⟩ (.bool true))) (World.putObj_heap_other nD)
      exact ⟨.bool true, by simp [results, Try.results15, go_sem, r0], ⟨congrArg _ (congrArg _ HF.out), Lib.hid (HBW.out.trans (belowK_b (w := W0) KW0.out.size (W.setCell ⟨br, 0, none⟩ (.bool true)) D _ _ HDD.out HKE.out rfl rfl))⟩⟩
    case stop =>
      rintro D c s W hD hX hK
      obtain ⟨rfl, hw, k, hk1, hk2⟩ := hX
      have HWB := Lib.hid hw
      have HKE := Lib.hid hK
      have HDD := Lib.hid hD
      have HF : Hid (false = r) := Lib.hid (by
        cases r with
        | false => rfl
        | true =>
          have lk : k < ks.length := by have := HNA.out.cons.len; simp only at this; omega
          exact absurd ((HR.out.1 rfl).2 ks[k] (List.getElem_mem lk)) ((HPP.out k lk).1 hk2))
      clear hD hK hw
      have nD : ¬ br = D := by have := HDD.out; have := HSX.out.2.2; omega
      have HRC : Hid (W.cell? ⟨br, 0, none⟩ = some (.bool false)) := Lib.hid (cell_block HWB.out.h 0)
      have HBW := Lib.hid HWB.out.bw
      gi_wp2
      refine ⟨by simp, .inl ⟨_, _, rfl, run_takeDeferred HKE.out, ?_⟩⟩
      have r0 : (W.putObj D (.deferred none)).cell? ⟨br, 0, none⟩ = some (.bool false) := by rw [← HRC.out]; exact World.cell?_of_block (w := W) (World.putObj_heap_other nD)
      exact ⟨.bool false, by simp [results, Try.results15, go_sem, r0], ⟨congrArg _ (congrArg _ HF.out), Lib.hid (HBW.out.trans (belowK_b (w := W0) KW0.out.size W D _ _ HDD.out HKE.out rfl rfl))⟩⟩
end Go.Proofs.Ytaobhhgalkkmaaa
