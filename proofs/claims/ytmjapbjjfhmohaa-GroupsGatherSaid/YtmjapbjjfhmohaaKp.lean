/- I1, I2 in one. -/
import Derived.Test.YtmjapbjjfhmohaaKk
import Derived.Test.YtmjapbjjfhmohaaKo
import Derived.RangeFuncNested
import Derived.RangeFuncBound
import Derived.RangeFuncCalls
import Derived.RangeFuncLeaves
import Derived.Shelf.Abstract
import Derived.Shelf.RegionOpen
import Derived.OwnWalkIn
import Derived.TacticsInMore
import Derived.LoopNIn
import Derived.LoopIn
import Derived.Sort.BigQuietIn
namespace Go.Proofs.Ytmjapbjjfhmohaa
set_option linter.unusedVariables false
set_option linter.unusedSimpArgs false
open Go.ChangeShapes Go.WideShapes Go.ChangeAt Go.RowKit Go.Shelf
section
attribute [local go_sem] Oper.semAt_some
/-- What an iterator promises: it hands out elements x, one after the other, each one fit for the state s and the world that it is handed out in. -/
def SeqRel {α σ : Type} (F : Fence) (n : Nat) (P : Program) (g : Nat) (lb : Array Value) (encs : α → Array Value) (Kp : World → World → Prop) (Rx : σ → α → World → Prop) (nx : σ → α → σ) (S : σ → Prop) (s0 : σ) (w : World) : Prop :=
  ∀ (l : Nat) (J Jx : σ → World → Prop) (W : World), Below w.heap.size w W → AbidesFrom W.heap.size J → AbidesFrom W.heap.size Jx →
    (∀ s x V, J s V → Rx s x V → YieldAt F (n - 1) P l (encs x) V fun e V' => (e = .returned (.bool true) ∧ J (nx s x) V' ∧ Kp V V') ∨ (e = .returned (.bool false) ∧ Jx (nx s x) V')) →
    J s0 W → CallsIn F n P g (#[.func (.yield l) #[] #[]] ++ lb) W fun e V => (∃ v, e = .returned v) ∧ ((∃ s, S s ∧ J s V) ∨ ∃ s, Jx s V)
/-- How a round may end. -/
def roundEnds {σ : Type} (B : Nat) (Kp : World → World → Prop) (I : σ → World → Prop) (Ix : Code → σ → World → Prop) (s : σ) (W : World) (e : Exit) (W' : World) : Prop :=
  (e = .normal ∧ KeepsFrom B W W' ∧ Kp W W' ∧ I s W') ∨ (∃ c, (e = .ret ∧ c = .ret ∨ ∃ id, e = .exit id ∧ c = .exit id) ∧ KeepsFrom B W W' ∧ Ix c s W')
theorem range_rel {α σ : Type} {F : Fence} {n : Nat} {P : Program} {g : Operand} {ps : Array Tmp} {assign body : Code} {Q : Exit → Act → World → Prop} {a : Act} {w : World}
    (hro : F.round = none) (h1 : 1 ≤ n) {gf : Nat} {lb : Array Value} (hg : a.eval g = .func (.func gf) #[] lb) (hFg : F.fn gf) (eg : ∀ args w, (callFunc gf args).run P w = .ok (.enter gf args) w)
    {encs : α → Array Value} {Kp : World → World → Prop} {Rx : σ → α → World → Prop} {nx : σ → α → σ} {S : σ → Prop} {s0 : σ} {w0 : World} (hseq : SeqRel F (n - 1) P gf lb encs Kp Rx nx S s0 w0)
    (kt : ∀ {A B C : World}, Kp A B → Kp B C → Kp A C) (kb : ∀ (W : World) (l : Nat) (o o' : Obj), w.heap.size ≤ l → W.heap[l]? = some o → o.isCells = false → o.isWalk = false → Kp W (W.putObj l o'))
    (hb : Below w0.heap.size w0 w) (hps : ∀ x, (encs x).size = ps.size)
    (I : σ → World → Prop) (Ix : Code → σ → World → Prop) (hI : OwnFrom w.heap.size I) (hIx : ∀ c, OwnFrom w.heap.size (Ix c)) (h0 : I s0 w)
    (Ax : σ → α → Act → World → Prop) (hAx : ∀ s x a', OwnFrom w.heap.size (fun (_ : Unit) W => Ax s x a' W))
    (hassign : ∀ (l : Nat) s x (W : World) (K : Act → World → Prop), I s W → Rx s x W → (∀ a' V, KeepsFrom w.heap.size W V → Kp W V → I s V → Ax s x a' V → K a' V) →
      assign.wpIn (F.inRound l) (n - 1 - 1) P (Exit.then K (fun _ _ _ => False)) { tmps := (ps.zip (encs x)).foldl (fun t (p, v) => t.setIfInBounds p v) a.tmps, defers := [] } W)
    (hbody : ∀ (l : Nat) s x (a' : Act) (W : World), w.heap.size ≤ l → (∃ r, W.heap[l]? = some (.loop r)) → I s W → Ax s x a' W → body.wpIn (F.inRound l) (n - 1 - 1) P (fun e _ V => roundEnds w.heap.size Kp I Ix (nx s x) W e V) a' W)
    (hdone : ∀ (D : Nat) s (W : World), w.heap.size ≤ D → S s → I s W → W.heap[D]? = some (.deferred (some [])) → Q .normal { a with defers := { target := .collected D, args := #[] } :: a.defers } W)
    (hstop : ∀ (D : Nat) (c : Code) s (W : World), w.heap.size ≤ D → Ix c s W → W.heap[D]? = some (.deferred (some [])) → c.wpIn F n P Q { a with defers := { target := .collected D, args := #[] } :: a.defers } W) :
    (Code.rangeFunc g ps assign body).wpIn F n P Q a w := by
  refine wpIn_rangeFunc (fun fn hfn => ?_)
  rw [hro]
  -- the two blocks of the loop itself: D, the calls that are put off; D + 1, its record
  obtain ⟨D, hD⟩ : ∃ D, D = w.heap.size := ⟨_, rfl⟩
  obtain ⟨rec, hrec⟩ : ∃ rec : LoopState → Option Code → Loop, rec = fun st pe => { state := st, pending := pe, fn, tmps := a.tmps, params := ps, assign, body, defers := D } := ⟨_, rfl⟩
  obtain ⟨V, hV⟩ : ∃ V, (w.alloc (.deferred (some []))).alloc (.loop (rec .ready none)) = V := ⟨_, rfl⟩
  have below : Below w.heap.size w V := by rw [← hV]; exact ((Below.refl _ w).alloc (Nat.le_refl _) _).alloc (by simp) _
  have sizeV : V.heap.size = D + 2 := by rw [← hV, hD]; simp
  have recV : V.heap[D + 1]? = some (.loop (rec .ready none)) := by
    rw [← hV, hD]
    have q := World.alloc_heap_new (w.alloc (.deferred (some []))) (.loop (rec .ready none))
    rw [World.size_alloc] at q; exact q
  have defV : V.heap[D]? = some (.deferred (some [])) := by
    rw [← hV, hD]
    exact (Below.heap_alloc _ _ _ (by simp)).trans (World.alloc_heap_new w _)
  have invV : I s0 V := by rw [← hV]; exact hI.alloc _ (hI.alloc _ h0)
  have rows : ∀ {A : World} {row : Option Nat}, (∀ r, row = some r → V.heap.size ≤ r ∧ ∃ o : Obj, A.heap[r]? = some o ∧ o.isWalk = true) → ∀ r, row = some r → w.heap.size ≤ r ∧ ∃ o : Obj, A.heap[r]? = some o ∧ o.isCells = false := fun hr r e => by
    obtain ⟨k, o, ho, hw⟩ := hr r e
    exact ⟨by omega, o, ho, Obj.not_cells_of_walk hw⟩
  refine ⟨D + 1, [{ target := .collected D, args := #[] }], V, { target := .fn (.func gf) lb, args := #[.func (.yield (D + 1)) #[] #[]] }, V, gf, #[.func (.yield (D + 1)) #[] #[]] ++ lb, V, ?_, ?_, ?_, ?_, fun _ => h1, ?_⟩
  · rw [← hV, hrec, hD]; exact run_enterLoop_outer _ _ _ _ _
  · simp only [resolve, hg]; simp [go_sem]
  · intro f hf; simp [Target.leads] at hf; subst hf; exact hFg
  · simp [invoke, go_sem, eg]
  have walk : ∀ {A B : World} {row : Option Nat} {k : Nat} {o : Obj}, A.grownBy B row → (∀ r, row = some r → V.heap.size ≤ r ∧ ∃ o : Obj, A.heap[r]? = some o ∧ o.isWalk = true) → A.heap[k]? = some o → o.isWalk = false → B.heap[k]? = some o := fun hgr hr h hw => (grownBy_keeps hgr (fun r e => (hr r e).2) h hw).trans h
  refine (hseq (D + 1) (fun s W => I s W ∧ W.heap[D + 1]? = some (.loop (rec .ready none)) ∧ W.heap[D]? = some (.deferred (some [])))
    (fun s W => ∃ c, Ix c s W ∧ W.heap[D + 1]? = some (.loop (rec .done (some c))) ∧ W.heap[D]? = some (.deferred (some []))) V (hb.trans (below.mono hb.size))
    (fun s A B row hs hgr hr => ⟨hI s A B row hs.1 hgr (rows hr), walk hgr hr hs.2.1 rfl, walk hgr hr hs.2.2 rfl⟩)
    (fun s A B row ⟨c, x1, x2, x3⟩ hgr hr => ⟨c, hIx c s A B row x1 hgr (rows hr), walk hgr hr x2 rfl, walk hgr hr x3 rfl⟩) ?_ ⟨invV, recV, defV⟩).mono ?_
  · rintro s x W ⟨i1, i2, i3⟩ hx
    have hy := run_yield (P := P) (args := encs x) i2 (by rw [hrec]; exact hps x)
    rw [hrec] at hy
    refine ⟨fn, _, assign, body, hy, roundIn_of_wpIn hfn (hassign _ s x W _ i1 hx (fun a' U ku kpu iu au => ?_))⟩
    have u2 := ku.same _ _ (by omega) i2 rfl
    have u3 := ku.same _ _ (by omega) i3 rfl
    have lt : D + 1 < U.heap.size := (Array.getElem?_eq_some_iff.1 u2).1
    obtain ⟨busy, hbusy⟩ : ∃ b : Obj, b = .loop { rec .ready none with state := .busy } := ⟨_, rfl⟩
    obtain ⟨U2, hU2⟩ : ∃ U2, U.putObj (D + 1) busy = U2 := ⟨_, rfl⟩
    have v2 : U2.heap[D + 1]? = some busy := by rw [← hU2]; exact World.putObj_heap_same lt
    have v3 : U2.heap[D]? = some (.deferred (some [])) := by rw [← hU2]; exact (World.putObj_heap_other (by omega)).trans u3
    have kpb : Kp U U2 := by rw [← hU2]; exact kb _ _ _ _ (by omega) u2 rfl rfl
    refine ⟨U2, by rw [← hU2, hbusy]; exact run_beginRound u2 (by rw [hrec]), ?_⟩
    refine wpIn_mono (hbody _ s x a' U2 (by omega) ⟨_, by rw [v2, hbusy]⟩ (by rw [← hU2]; exact hI.putObj _ iu (by omega) u2 rfl) (by rw [← hU2]; exact (hAx s x a').putObj (s := ()) _ au (by omega) u2 rfl)) ?_
    have ends : ∀ (jump : Option Code) (X : World), KeepsFrom w.heap.size U2 X → X.heap[D + 1]? = some busy ∧ (Instr.endRound (D + 1) jump).run P X = .ok (.bool jump.isNone) (X.putObj (D + 1) (.loop (rec (if jump.isNone then .ready else .done) jump))) ∧ (X.putObj (D + 1) (.loop (rec (if jump.isNone then .ready else .done) jump))).heap[D + 1]? = some (.loop (rec (if jump.isNone then .ready else .done) jump)) ∧ (X.putObj (D + 1) (.loop (rec (if jump.isNone then .ready else .done) jump))).heap[D]? = some (.deferred (some [])) := fun jump X kx => by
      have y2 := kx.same _ _ (by omega) v2 (by rw [hbusy]; rfl)
      have y3 := kx.same _ _ (by omega) v3 rfl
      have y4 := y2
      rw [hbusy] at y4
      have q := run_endRound (P := P) jump y4
      rw [hrec] at q ⊢
      exact ⟨y2, q, World.putObj_heap_same (Array.getElem?_eq_some_iff.1 y2).1, (World.putObj_heap_other (by omega)).trans y3⟩
    rintro e a3 X hp
    rcases hp with ⟨rfl, kx, kpx, ix⟩ | ⟨c, he, kx, ixx⟩
    · obtain ⟨y1, y2, y3, y4⟩ := ends none X kx
      exact ⟨_, _, y2, .inl ⟨rfl, ⟨hI.putObj _ ix (by omega) y1 (by rw [hbusy]; rfl), y3, y4⟩, kt kpu (kt (kt kpb kpx) (kb _ _ _ _ (by omega) y1 (by rw [hbusy]; rfl) (by rw [hbusy]; rfl)))⟩⟩
    · obtain ⟨y1, y2, y3, y4⟩ := ends (some c) X kx
      have fin : (∃ v V', (Instr.endRound (D + 1) (some c)).run P X = .ok v V' ∧ ((Ending.returned v = Ending.returned (.bool true) ∧ (I (nx s x) V' ∧ V'.heap[D + 1]? = some (.loop (rec .ready none)) ∧ V'.heap[D]? = some (.deferred (some []))) ∧ Kp W V') ∨ (Ending.returned v = Ending.returned (.bool false) ∧ ∃ c, Ix c (nx s x) V' ∧ V'.heap[D + 1]? = some (.loop (rec .done (some c))) ∧ V'.heap[D]? = some (.deferred (some []))))) :=
        ⟨_, _, y2, .inr ⟨rfl, c, (hIx c).putObj _ ixx (by omega) y1 (by rw [hbusy]; rfl), y3, y4⟩⟩
      rcases he with ⟨rfl, rfl⟩ | ⟨id, rfl, rfl⟩
      · exact fin
      · exact fin
  · rintro e W ⟨⟨v, rfl⟩, ⟨s, hs, i1, i2, i3⟩ | ⟨s, c, i1, i2, i3⟩⟩
    · refine ⟨none, _, by have q := run_endLoop (P := P) i2 (by rw [hrec]; simp); rw [hrec] at q; exact q, ?_⟩
      exact hdone D s _ (by omega) hs (hI.putObj _ i1 (by omega) i2 rfl) ((World.putObj_heap_other (by omega)).trans i3)
    · refine ⟨some c, _, by have q := run_endLoop (P := P) i2 (by rw [hrec]; simp); rw [hrec] at q; exact q, ?_⟩
      exact hstop D c s _ (by omega) ((hIx c).putObj _ i1 (by omega) i2 rfl) ((World.putObj_heap_other (by omega)).trans i3)
theorem free_blk {w : World} {b : Nat} {c : Array Value} {t : TypeId} (h : w.heap[b]? = some (.cells c t (0, 0))) (k : Nat) : w.frozen? ⟨b, k, none⟩ = false := by
  unfold World.frozen?; rw [h]; simp
theorem own_kept {W W' : World} {B t s n : Nat} {v : Value} {vs : List Value} {row : Option Nat} (h : W.ownsRow B t s v n vs) (hg : W.grownBy W' row) (hr : ∀ r, row = some r → ∃ o : Obj, W.heap[r]? = some o ∧ o.isCells = false) : W'.ownsRow B t s v n vs := by
  refine ⟨h.1, ?_⟩
  rcases h.2 with q | ⟨g, cap, cur, hv, h2, h3, h4, h5, h6, h7⟩
  · exact .inl q
  · exact .inr ⟨g, cap, cur, hv, h2, (hg.block g (Array.getElem?_eq_some_iff.1 h3).1 (fun e => by
      obtain ⟨o, ho, hc⟩ := hr g e.symm
      rw [h3] at ho; cases ho; cases hc)).trans h3, h4, h5, h6, h7⟩
theorem keeps_app {W w1 : World} {B t s n : Nat} {v : Value} {vs : List Value} {tmp : Obj} (h : W.ownsRow B t s v n vs) (hg : (W.alloc tmp).grownBy w1 v.ownBlock) : KeepsFrom B W w1 := by
  refine ⟨by have := hg.size; simp at this; omega, fun k o hk h0 hc => ?_⟩
  have lt := (Array.getElem?_eq_some_iff.1 h0).1
  have e : (W.alloc tmp).heap[k]? = some o := (Below.heap_alloc W tmp k lt).trans h0
  refine (hg.block k (by simp; omega) (fun z => ?_)).trans e
  rcases h.2 with ⟨q, _⟩ | ⟨g, cap, cur, hv, h2, h3, _⟩
  · rw [q] at z; simp [Value.ownBlock] at z
  · rw [hv] at z
    have : k = g := by simpa [Value.ownBlock] using z
    subst this
    rw [h0] at h3; cases h3; cases hc
theorem keepsFrom_below {B : Nat} {W W' : World} (h : Below W.heap.size W W') : KeepsFrom B W W' := ⟨h.size, fun k o _ h0 _ => (h.block k (Array.getElem?_eq_some_iff.1 h0).1).trans h0⟩

theorem heap_keep {w w' : World} {b : Nat} {o : Obj} (h : w.heap[b]? = some o) (k : Below w.heap.size w w') : w'.heap[b]? = some o := (k.block b (Array.getElem?_eq_some_iff.1 h).1).trans h
/-- What a cell's slice has lies in memory. -/
def Pr (bl : Nat) (W : World) : Prop := ∀ va q, W.heap[bl]? = some (.cells #[va] 34 (0, 0)) → va.ownBlock = some q → q < W.heap.size
/-- All below n₁ lies as it lay, but for one block; and what that block's slice has lies in memory. -/
structure Kz (n₀ n₁ bl : Nat) (W W' : World) : Prop where
  below : Below n₀ W W'
  keep : ∀ k, k < n₁ → k ≠ bl → W'.heap[k]? = W.heap[k]?
  fr : Pr bl W → Pr bl W'
theorem Kz.refl (n₀ n₁ bl : Nat) (W : World) : Kz n₀ n₁ bl W W := ⟨Below.refl _ _, fun _ _ _ => rfl, id⟩
theorem Kz.trans {n₀ n₁ bl : Nat} {A B C : World} (h : Kz n₀ n₁ bl A B) (k : Kz n₀ n₁ bl B C) : Kz n₀ n₁ bl A C := ⟨h.below.trans k.below, fun q h1 h2 => (k.keep q h1 h2).trans (h.keep q h1 h2), fun z => k.fr (h.fr z)⟩
theorem Kz.of {n₀ n₁ bl : Nat} {A B : World} (h0 : n₀ ≤ A.heap.size) (h1 : n₁ ≤ A.heap.size) (hb : bl < n₁) (h : Below A.heap.size A B) : Kz n₀ n₁ bl A B := ⟨h.mono h0, fun q h2 _ => h.block q (by omega), fun z va q e1 e2 => by
  rw [h.block bl (by omega)] at e1
  exact Nat.lt_of_lt_of_le (z va q e1 e2) h.size⟩
theorem Kz.at {n₀ n₁ bl : Nat} {A B : World} (h : Kz n₀ n₁ bl A B) {k : Nat} {o : Obj} (h1 : k < n₁) (h2 : k ≠ bl) (e : A.heap[k]? = some o) : B.heap[k]? = some o := (h.keep k h1 h2).trans e
theorem kz_put {n₀ n₁ bl : Nat} {w : World} (h : n₀ ≤ w.heap.size) (h1 : n₁ ≤ w.heap.size) (hb : bl < n₁) (W : World) (l : Nat) (o o' : Obj) (hl : w.heap.size ≤ l) (h0 : W.heap[l]? = some o) (h3 : o.isCells = false) (h2 : o.isWalk = false) : Kz n₀ n₁ bl W (W.putObj l o') :=
  ⟨belowK_b (w := w) h W l o o' hl h0 h3 h2, fun q h4 _ => World.putObj_heap_other (by omega), fun z va q e1 e2 => by
    rw [World.putObj_heap_other (by omega)] at e1
    have := z va q e1 e2
    simpa [World.putObj] using this⟩
theorem kz_set {n₀ n₁ bl : Nat} {A W : World} (h : Kz n₀ n₁ bl A W) (hb : n₀ ≤ bl) (i : Nat) (v : Value) (hp : Pr bl (W.setCell ⟨bl, i, none⟩ v)) : Kz n₀ n₁ bl A (W.setCell ⟨bl, i, none⟩ v) :=
  ⟨h.below.setCell (p := ⟨bl, i, none⟩) hb v, fun q h1 h2 => (Below.heap_setCell W ⟨bl, i, none⟩ v q h2).trans (h.keep q h1 h2), fun _ => hp⟩
theorem pr_four {bl : Nat} {W : World} {x0 x1 x2 x3 : Value} {t : TypeId} (h : W.heap[bl]? = some (.cells #[x0, x1, x2, x3] t (0, 0))) : Pr bl W := fun va q e1 _ => by
  rw [h] at e1
  injection e1 with e1
  injection e1 with e1 _ _
  have := congrArg Array.size e1
  simp at this
theorem pr_one {bl : Nat} {W : World} {v : Value} (h : W.heap[bl]? = some (.cells #[v] 34 (0, 0))) (hv : ∀ q, v.ownBlock = some q → q < W.heap.size) : Pr bl W := fun va q e1 e2 => by
  rw [h] at e1
  injection e1 with e1
  injection e1 with e1 _ _
  have : v = va := by
    have := congrArg (fun a : Array Value => a[0]?) e1
    simpa using this
  subst this
  exact hv q e2
theorem kz_app {n₀ n₁ bl B : Nat} {A W w1 : World} {t s n : Nat} {v : Value} {vs : List Value} {tmp : Obj} (h : Kz n₀ n₁ bl A W) (o : W.ownsRow B t s v n vs) (hn : n₀ ≤ B) (hx : n₁ ≤ B) (hb : bl < n₁) (hB : B ≤ W.heap.size) (hg : (W.alloc tmp).grownBy w1 v.ownBlock) : Kz n₀ n₁ bl A w1 := by
  have far : ∀ q, v.ownBlock = some q → B ≤ q := fun q e => (o.lt q e).1
  have k : Below W.heap.size W (W.alloc tmp) := (Below.refl _ W).alloc (Nat.le_refl _) _
  have blk : ∀ q, q < n₁ → w1.heap[q]? = W.heap[q]? := fun q h1 => (hg.block q (by simp; omega) (fun e => by have := far q e.symm; omega)).trans (k.block q (by omega))
  refine ⟨(h.below.trans (k.mono (Nat.le_trans hn hB))).grown hg (by simp; omega) (fun q e => Nat.le_trans hn (far q e)), fun q h1 h2 => (blk q h1).trans (h.keep q h1 h2), fun z va q e1 e2 => ?_⟩
  rw [blk bl hb] at e1
  have a := h.fr z va q e1 e2
  have b := hg.size
  simp at b
  omega
/-- What a closure tells of an index: a set of its own, or an error. -/
def TO (S : Int → List Sp) (ok : Int → Prop) (B : Nat) (j : Int) (x : Value × Int) (W : World) : Prop := (ok j ∧ x.2 = 0 ∧ W.ownsRow B 50 2 x.1 (S j).length (spCells (S j))) ∨ (¬ ok j ∧ x.2 = 20 ∧ x.1 = .slice none 0 0)
def enc2 (x : Value × Int) : Array Value := #[x.1, .int .i64 x.2]
def StR (S : Int → List Sp) (ok : Int → Prop) (B bl : Nat) (from_ : Int) (count : Nat) (s : Nat) (x : Value × Int) (W : World) : Prop := s < count ∧ TO S ok B (from_ + (s : Int)) x W ∧ ∀ va q, W.heap[bl]? = some (.cells #[va] 34 (0, 0)) → va.ownBlock = some q → x.1.ownBlock ≠ some q
theorem sets_any (from_ count : Int) (gf : Nat) (lb : Array Value) (w : World) : Calls Try.prog 30 #[.int .i64 from_, .int .i64 count, .func (.func gf) #[] lb] w fun e w' => e = .returned (.func (.func 52) #[] #[.pointer (some ⟨w.heap.size + 1, 0, none⟩), .pointer (some ⟨w.heap.size + 2, 0, none⟩), .pointer (some ⟨w.heap.size, 0, none⟩)]) ∧ Hid (w'.heap[w.heap.size]? = some (.cells #[.int .i64 from_] 3 (0, 0)) ∧ w'.heap[w.heap.size + 1]? = some (.cells #[.int .i64 count] 3 (0, 0)) ∧ w'.heap[w.heap.size + 2]? = some (.cells #[.func (.func gf) #[] lb] 72 (0, 0)) ∧ w'.heap.size = w.heap.size + 3) ∧ Hid (Below w.heap.size w w') := by
  obtain ⟨b, hb⟩ : ∃ b, w.heap.size = b := ⟨_, rfl⟩
  have H1 : Hid (Below w.heap.size w (((w.alloc (.cells #[.int .i64 from_] 3)).alloc (.cells #[.int .i64 count] 3)).alloc (.cells #[.func (.func gf) #[] lb] 72))) := Lib.hid ((((Below.refl _ w).alloc (Nat.le_refl _) _).alloc (by simp) _).alloc (by simp; omega) _)
  have H2 : Hid ((((w.alloc (.cells #[.int .i64 from_] 3)).alloc (.cells #[.int .i64 count] 3)).alloc (.cells #[.func (.func gf) #[] lb] 72)).heap[b]? = some (.cells #[.int .i64 from_] 3 (0, 0)) ∧ (((w.alloc (.cells #[.int .i64 from_] 3)).alloc (.cells #[.int .i64 count] 3)).alloc (.cells #[.func (.func gf) #[] lb] 72)).heap[b + 1]? = some (.cells #[.int .i64 count] 3 (0, 0)) ∧ (((w.alloc (.cells #[.int .i64 from_] 3)).alloc (.cells #[.int .i64 count] 3)).alloc (.cells #[.func (.func gf) #[] lb] 72)).heap[b + 2]? = some (.cells #[.func (.func gf) #[] lb] 72 (0, 0)) ∧ (((w.alloc (.cells #[.int .i64 from_] 3)).alloc (.cells #[.int .i64 count] 3)).alloc (.cells #[.func (.func gf) #[] lb] 72)).heap.size = b + 3) := Lib.hid ⟨(Below.heap_alloc _ _ _ (by simp; omega)).trans ((Below.heap_alloc _ _ _ (by simp; omega)).trans (heap_at hb)), (Below.heap_alloc _ _ _ (by simp; omega)).trans (heap_at (by simp; omega)), heap_at (by simp; omega), by simp; omega⟩
  rw [hb] at H1 ⊢
  go_enter Try.func30, Try.ntmps30
  go_wp2
  generalize hwf : ((w.alloc (.cells #[.int .i64 from_] 3)).alloc (.cells #[.int .i64 count] 3)).alloc (.cells #[.func (.func gf) #[] lb] 72) = wf at H1 H2 ⊢
  try rw [hb]
  go_returns
  exact ⟨rfl, H2, H1⟩
end
section
attribute [local go_sem] Oper.semAt_some

set_option maxRecDepth 100000 in
set_option maxHeartbeats 4000000 in
theorem sets_in31 (S : Int → List Sp) (ok : Int → Prop) (from_ : Int) (count bf : Nat) (n₀ n₁ bl m : Nat) (hm : 1 ≤ m) (l x y z : Nat) (J Jx : Nat → World → Prop) (W : World)
    (hY : ∀ s v V, J s V → StR S ok n₁ bl from_ count s v V → YieldAt Fence.wide (m - 1) Try.prog l (enc2 v) V fun e V' => (e = .returned (.bool true) ∧ J (s + 1) V' ∧ Kz n₀ n₁ bl V V') ∨ (e = .returned (.bool false) ∧ Jx (s + 1) V'))
    (hJ : AbidesFrom W.heap.size J) (hn : n₀ ≤ W.heap.size) (hn1 : n₁ ≤ W.heap.size) (hr : -9223372036854775808 ≤ from_ ∧ from_ + (count : Int) ≤ 9223372036854775807 ∧ (count : Int) ≤ 9223372036854775807)
    (hT : ∀ W' (j : Int), Kz n₀ n₁ bl W W' → n₁ ≤ W'.heap.size → from_ ≤ j → j < from_ + (count : Int) → Calls Try.prog 31 #[.int .i64 j, .pointer (some ⟨bf, 0, none⟩)] W' fun e V => ∃ v k, e = .returned (.tuple #[v, .int .i64 k]) ∧ Hid (Below W'.heap.size W' V) ∧ Hid (TO S ok W'.heap.size j (v, k) V))
    (hpr : Pr bl W) (hbl : bl < n₁) (hx : x < n₁ ∧ x ≠ bl) (hy : y < n₁ ∧ y ≠ bl) (hz : z < n₁ ∧ z ≠ bl) (bx : W.heap[x]? = some (.cells #[.int .i64 from_] 3 (0, 0))) (by_ : W.heap[y]? = some (.cells #[.int .i64 (count : Int)] 3 (0, 0))) (bz : W.heap[z]? = some (.cells #[.func (.func 31) #[] #[.pointer (some ⟨bf, 0, none⟩)]] 72 (0, 0))) (h0 : J 0 W) :
    CallsIn Fence.wide m Try.prog 52 #[.func (.yield l) #[] #[], .pointer (some ⟨y, 0, none⟩), .pointer (some ⟨z, 0, none⟩), .pointer (some ⟨x, 0, none⟩)] W fun e W' => (∃ v, e = .returned v) ∧ ((∃ s, s = count ∧ J s W') ∨ (∃ s, Jx s W')) := by
  have HY := Lib.hid hY
  have HJ := Lib.hid hJ
  have HT := Lib.hid hT
  have HSZ : Hid (n₀ ≤ W.heap.size ∧ n₁ ≤ W.heap.size) := Lib.hid ⟨hn, hn1⟩
  have HPR := Lib.hid hpr
  have HX := Lib.hid hx
  have HYY := Lib.hid hy
  have HZ := Lib.hid hz
  have BX := Lib.hid bx
  have BY := Lib.hid by_
  have BZ := Lib.hid bz
  obtain ⟨r1, r2, r3⟩ := hr
  clear hY hJ hT hn hn1 hx hy hz bx bz hpr
  refine callsIn_of_wp Try.func52 rfl trivial ?_ rfl
  simp only [Try.ntmps52, List.size_toArray, List.length_cons, List.length_nil, Nat.reduceAdd, Nat.reduceSub, Array.replicate_succ, Array.replicate_zero, List.push_toArray, List.append_toArray, List.nil_append, List.cons_append]
  have c0 := cell_block by_ 0
  clear by_
  gi_wp2
  clear c0
  gi_loopw [5, 7] (fun s5 ii wr => ∃ i : Nat, i ≤ count ∧ ii = .int .i64 i ∧ Hid (J i wr) ∧ Hid (Kz n₀ n₁ bl W wr)) (fun s5 ii _ => count - (intOf ii).toNat)
  case atStart => exact ⟨0, Nat.zero_le _, rfl, Lib.hid h0, Lib.hid (Kz.refl _ _ _ _)⟩
  case round =>
    obtain ⟨i, hi, rfl, HJ0, HB⟩ := hrel
    have i0 : (0 : Int) ≤ (i : Int) := by omega
    by_cases ilt : i < count
    · have i1 : (i : Int) < (count : Int) := by omega
      have i2 : (i : Int) + 1 ≤ 9223372036854775807 := by omega
      have HS2 : Hid (n₀ ≤ wr.heap.size ∧ n₁ ≤ wr.heap.size) := Lib.hid (by have := HB.out.below.size; have := HSZ.out; omega)
      have HC := Lib.hid (HT.out wr (from_ + (i : Int)) HB.out HS2.out.2 (by omega) (by omega))
      have e1 : wr.cell? ⟨z, 0, none⟩ = some (.func (.func 31) #[] #[.pointer (some ⟨bf, 0, none⟩)]) := cell_block (HB.out.at HZ.out.1 HZ.out.2 BZ.out) 0
      have e2 : wr.cell? ⟨x, 0, none⟩ = some (.int .i64 from_) := cell_block (HB.out.at HX.out.1 HX.out.2 BX.out) 0
      have w1 : -9223372036854775808 ≤ from_ + (i : Int) := by omega
      have w2 : from_ + (i : Int) ≤ 9223372036854775807 := by omega
      gi_wp2
      refine ⟨trivial, ?_⟩
      refine (callsIn_wide.2 HC.out).mono ?_
      rintro e w2' ⟨v, k, rfl, q5, HTO⟩
      have HJ2 : Hid (J i w2') := Lib.hid (HJ.out _ _ _ none HJ0.out (grown_of_below q5.out) (fun r e => by cases e))
      have HB2 : Hid (Kz n₀ n₁ bl W w2') := Lib.hid (HB.out.trans (Kz.of HS2.out.1 HS2.out.2 hbl q5.out))
      have HTO2 : Hid (StR S ok n₁ bl from_ count i (v, k) w2') := Lib.hid ⟨ilt, by
        rcases HTO.out with ⟨a, b, c⟩ | h
        · exact .inl ⟨a, b, own_base c HS2.out.2⟩
        · exact .inr h, fun va q e1 e2 e3 => by
        have hq : q < wr.heap.size := by
          rw [q5.out.block bl (by have := HS2.out.2; omega)] at e1
          exact HB.out.fr HPR.out va q e1 e2
        rcases HTO.out with ⟨_, _, c⟩ | ⟨_, _, h⟩
        · have := (c.lt q e3).1; omega
        · rw [show (v, k).1 = v from rfl] at e3; dsimp only at h; rw [h] at e3; simp [Value.ownBlock] at e3⟩
      clear q5 e1 e2 HC HTO
      obtain ⟨fn', tmps, assign, body, hy, hR⟩ := HY.out i (v, k) w2' HJ2.out HTO2.out
      have HRr := Lib.hid hR
      clear hR
      dsimp only [enc2] at hy
      gi_wp2
      refine HRr.out.mono ?_
      rintro e w5 (⟨rfl, hJ3, hk3⟩ | ⟨rfl, hJx3⟩)
      · have HJ5 : Hid (J (i + 1) w5) := Lib.hid hJ3
        have HB5 := Lib.hid (HB2.out.trans hk3)
        clear hy hJ3 hk3 HRr
        gi_wp2
        go_roundw
        case rel => exact ⟨i + 1, by omega, by go_num, HJ5, HB5⟩
        case measure => simp [intOf]; omega
      · have HJx3 := Lib.hid hJx3
        clear hy hJx3 HRr
        gi_wp2
        refine bodyPost_ret (results_none rfl _ _ _) rfl ?_
        exact ⟨⟨_, rfl⟩, .inr ⟨_, HJx3.out⟩⟩
    · obtain rfl : count = i := by omega
      gi_wp2
      go_end0
      exact ⟨⟨_, rfl⟩, .inl ⟨_, rfl, HJ0.out⟩⟩
theorem sets_seq31 (S : Int → List Sp) (ok : Int → Prop) (from_ : Int) (count bf : Nat) (n₀ n₁ bl x y z : Nat) (w1 : World) (hn : n₀ ≤ w1.heap.size) (hn1 : n₁ ≤ w1.heap.size) (hr : -9223372036854775808 ≤ from_ ∧ from_ + (count : Int) ≤ 9223372036854775807 ∧ (count : Int) ≤ 9223372036854775807)
    (hT : ∀ W' (j : Int), Kz n₀ n₁ bl w1 W' → n₁ ≤ W'.heap.size → from_ ≤ j → j < from_ + (count : Int) → Calls Try.prog 31 #[.int .i64 j, .pointer (some ⟨bf, 0, none⟩)] W' fun e V => ∃ v k, e = .returned (.tuple #[v, .int .i64 k]) ∧ Hid (Below W'.heap.size W' V) ∧ Hid (TO S ok W'.heap.size j (v, k) V))
    (hpr : Pr bl w1) (hbl : bl < n₁) (hx : x < n₁ ∧ x ≠ bl) (hy : y < n₁ ∧ y ≠ bl) (hz : z < n₁ ∧ z ≠ bl) (bx : w1.heap[x]? = some (.cells #[.int .i64 from_] 3 (0, 0))) (by_ : w1.heap[y]? = some (.cells #[.int .i64 (count : Int)] 3 (0, 0))) (bz : w1.heap[z]? = some (.cells #[.func (.func 31) #[] #[.pointer (some ⟨bf, 0, none⟩)]] 72 (0, 0))) :
    SeqRel Fence.wide 2 Try.prog 52 #[.pointer (some ⟨y, 0, none⟩), .pointer (some ⟨z, 0, none⟩), .pointer (some ⟨x, 0, none⟩)] enc2 (Kz n₀ n₁ bl) (StR S ok n₁ bl from_ count) (fun s _ => s + 1) (fun s => s = count) 0 w1 := fun l J Jx W hW hJ hJx hY h0 => by
  have lt : ∀ {b : Nat} {o : Obj}, w1.heap[b]? = some o → W.heap[b]? = some o := fun e => (hW.block _ (Array.getElem?_eq_some_iff.1 e).1).trans e
  exact sets_in31 S ok from_ count bf n₀ n₁ bl 2 (by omega) l x y z J Jx W hY hJ (Nat.le_trans hn hW.size) (Nat.le_trans hn1 hW.size) hr (fun W' j k => hT W' j ((Kz.of hn hn1 hbl hW).trans k)) ((Kz.of (n₀ := n₀) hn hn1 hbl hW).fr hpr) hbl hx hy hz (lt bx) (lt by_) (lt bz) h0
end
end Go.Proofs.Ytmjapbjjfhmohaa
