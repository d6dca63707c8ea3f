/- Ported. -/
import Derived.Test.YtjhbgedobkpdhaaGreatEd
import Derived.Test.YtjhbgedobkpdhaaGreatSp2
import Derived.LoopIn
import Derived.LoopNIn
import Derived.OwnWalkIn
import Derived.RangeFuncBound
import Derived.RangeFuncCalls
import Derived.RangeFuncLeaves
import Derived.RangeFuncNested
import Derived.Shelf.Abstract
import Derived.Shelf.RegionOpen
import Derived.TacticsInMore
namespace Go.Proofs.YtjhbgedobkpdhaaGreat
set_option linter.unusedVariables false
set_option linter.unusedSimpArgs false
open Go.ChangeShapes Go.WideShapes Go.ChangeAt Go.RowKit Go.Shelf
attribute [local go_sem] Oper.semAt_some
/-- What an iterator promises: it hands out elements x, one after the other, each one fit for the state s and the world that it is handed out in. -/
def SeqRel {α σ : Type} (F : Fence) (n : Nat) (P : Program) (g : Nat) (lb : Array Value) (encs : α → Array Value) (Kp : World → World → Prop) (Rx : σ → α → World → Prop) (nx : σ → α → σ) (S : σ → Prop) (s0 : σ) (w : World) : Prop :=
  ∀ (l : Nat) (J Jx : σ → World → Prop) (W : World), Below w.heap.size w W → AbidesFrom W.heap.size J → AbidesFrom W.heap.size Jx →
    (∀ s x V, J s V → Rx s x V → YieldAt F (n - 1) P l (encs x) V fun e V' => (e = .returned (.bool true) ∧ J (nx s x) V' ∧ Kp V V') ∨ (e = .returned (.bool false) ∧ Jx (nx s x) V')) →
    J s0 W → CallsIn F n P g (#[.func (.yield l) #[] #[]] ++ lb) W fun e V => (∃ v, e = .returned v) ∧ ((∃ s, S s ∧ J s V) ∨ ∃ s, Jx s V)
/-- How a round may end. -/
def roundEnds {σ : Type} (B : Nat) (Kp : World → World → Prop) (I : σ → World → Prop) (Ix : Code → σ → World → Prop) (s : σ) (W : World) (e : Exit) (W' : World) : Prop :=
  (e = .normal ∧ KeepsFrom B W W' ∧ Kp W W' ∧ I s W') ∨ (∃ c, (e = .ret ∧ c = .ret ∨ ∃ id, e = .exit id ∧ c = .exit id) ∧ KeepsFrom B W W' ∧ Ix c s W')
theorem range_rel {α σ : Type} {F : Fence} {n : Nat} {P : Program} {g : Operand} {ps : Array Tmp} {assign body : Code} {Q : Exit → Act → World → Prop} {a : Act} {w : World}
    (hro : F.round = none) (h1 : 1 ≤ n) {gf : Nat} {lb : Array Value} (hg : a.eval g = .func (.func gf) #[] lb) (hFg : F.fn gf) (eg : ∀ args w, (callFunc gf args).run P w = .ok (.enter gf args) w)
    {encs : α → Array Value} {Kp : World → World → Prop} {Rx : σ → α → World → Prop} {nx : σ → α → σ} {S : σ → Prop} {s0 : σ} {w0 : World} (hseq : SeqRel F (n - 1) P gf lb encs Kp Rx nx S s0 w0)
    (kt : ∀ {A B C : World}, Kp A B → Kp B C → Kp A C) (kb : ∀ (W : World) (l : Nat) (o o' : Obj), w.heap.size ≤ l → W.heap[l]? = some o → o.isCells = false → o.isWalk = false → Kp W (W.putObj l o'))
    (hb : Below w0.heap.size w0 w) (hps : ∀ x, (encs x).size = ps.size)
    (I : σ → World → Prop) (Ix : Code → σ → World → Prop) (hI : OwnFrom w.heap.size I) (hIx : ∀ c, OwnFrom w.heap.size (Ix c)) (h0 : I s0 w)
    (Ax : σ → α → Act → World → Prop) (hAx : ∀ s x a', OwnFrom w.heap.size (fun (_ : Unit) W => Ax s x a' W))
    (hassign : ∀ (l : Nat) s x (W : World) (K : Act → World → Prop), I s W → Rx s x W → (∀ a' V, KeepsFrom w.heap.size W V → Kp W V → I s V → Ax s x a' V → K a' V) →
      assign.wpIn (F.inRound l) (n - 1 - 1) P (Exit.then K (fun _ _ _ => False)) { tmps := (ps.zip (encs x)).foldl (fun t (p, v) => t.setIfInBounds p v) a.tmps, defers := [] } W)
    (hbody : ∀ (l : Nat) s x (a' : Act) (W : World), w.heap.size ≤ l → (∃ r, W.heap[l]? = some (.loop r)) → I s W → Ax s x a' W → body.wpIn (F.inRound l) (n - 1 - 1) P (fun e _ V => roundEnds w.heap.size Kp I Ix (nx s x) W e V) a' W)
    (hdone : ∀ (D : Nat) s (W : World), w.heap.size ≤ D → S s → I s W → W.heap[D]? = some (.deferred (some [])) → Q .normal { a with defers := { target := .collected D, args := #[] } :: a.defers } W)
    (hstop : ∀ (D : Nat) (c : Code) s (W : World), w.heap.size ≤ D → Ix c s W → W.heap[D]? = some (.deferred (some [])) → c.wpIn F n P Q { a with defers := { target := .collected D, args := #[] } :: a.defers } W) :
    (Code.rangeFunc g ps assign body).wpIn F n P Q a w := by
  refine wpIn_rangeFunc (fun fn hfn => ?_)
  rw [hro]
  -- the two blocks of the loop itself: D, the calls that are put off; D + 1, its record
  obtain ⟨D, hD⟩ : ∃ D, D = w.heap.size := ⟨_, rfl⟩
  obtain ⟨rec, hrec⟩ : ∃ rec : LoopState → Option Code → Loop, rec = fun st pe => { state := st, pending := pe, fn, tmps := a.tmps, params := ps, assign, body, defers := D } := ⟨_, rfl⟩
  obtain ⟨V, hV⟩ : ∃ V, (w.alloc (.deferred (some []))).alloc (.loop (rec .ready none)) = V := ⟨_, rfl⟩
  have below : Below w.heap.size w V := by rw [← hV]; exact ((Below.refl _ w).alloc (Nat.le_refl _) _).alloc (by simp) _
  have sizeV : V.heap.size = D + 2 := by rw [← hV, hD]; simp
  have recV : V.heap[D + 1]? = some (.loop (rec .ready none)) := by
    rw [← hV, hD]
    have q := World.alloc_heap_new (w.alloc (.deferred (some []))) (.loop (rec .ready none))
    rw [World.size_alloc] at q; exact q
  have defV : V.heap[D]? = some (.deferred (some [])) := by
    rw [← hV, hD]
    exact (Below.heap_alloc _ _ _ (by simp)).trans (World.alloc_heap_new w _)
  have invV : I s0 V := by rw [← hV]; exact hI.alloc _ (hI.alloc _ h0)
  have rows : ∀ {A : World} {row : Option Nat}, (∀ r, row = some r → V.heap.size ≤ r ∧ ∃ o : Obj, A.heap[r]? = some o ∧ o.isWalk = true) → ∀ r, row = some r → w.heap.size ≤ r ∧ ∃ o : Obj, A.heap[r]? = some o ∧ o.isCells = false := fun hr r e => by
    obtain ⟨k, o, ho, hw⟩ := hr r e
    exact ⟨by omega, o, ho, Obj.not_cells_of_walk hw⟩
  refine ⟨D + 1, [{ target := .collected D, args := #[] }], V, { target := .fn (.func gf) lb, args := #[.func (.yield (D + 1)) #[] #[]] }, V, gf, #[.func (.yield (D + 1)) #[] #[]] ++ lb, V, ?_, ?_, ?_, ?_, fun _ => h1, ?_⟩
  · rw [← hV, hrec, hD]; exact run_enterLoop_outer _ _ _ _ _
  · simp only [resolve, hg]; simp [go_sem]
  · intro f hf; simp [Target.leads] at hf; subst hf; exact hFg
  · simp [invoke, go_sem, eg]
  have walk : ∀ {A B : World} {row : Option Nat} {k : Nat} {o : Obj}, A.grownBy B row → (∀ r, row = some r → V.heap.size ≤ r ∧ ∃ o : Obj, A.heap[r]? = some o ∧ o.isWalk = true) → A.heap[k]? = some o → o.isWalk = false → B.heap[k]? = some o := fun hgr hr h hw => (grownBy_keeps hgr (fun r e => (hr r e).2) h hw).trans h
  refine (hseq (D + 1) (fun s W => I s W ∧ W.heap[D + 1]? = some (.loop (rec .ready none)) ∧ W.heap[D]? = some (.deferred (some [])))
    (fun s W => ∃ c, Ix c s W ∧ W.heap[D + 1]? = some (.loop (rec .done (some c))) ∧ W.heap[D]? = some (.deferred (some []))) V (hb.trans (below.mono hb.size))
    (fun s A B row hs hgr hr => ⟨hI s A B row hs.1 hgr (rows hr), walk hgr hr hs.2.1 rfl, walk hgr hr hs.2.2 rfl⟩)
    (fun s A B row ⟨c, x1, x2, x3⟩ hgr hr => ⟨c, hIx c s A B row x1 hgr (rows hr), walk hgr hr x2 rfl, walk hgr hr x3 rfl⟩) ?_ ⟨invV, recV, defV⟩).mono ?_
  · rintro s x W ⟨i1, i2, i3⟩ hx
    have hy := run_yield (P := P) (args := encs x) i2 (by rw [hrec]; exact hps x)
    rw [hrec] at hy
    refine ⟨fn, _, assign, body, hy, roundIn_of_wpIn hfn (hassign _ s x W _ i1 hx (fun a' U ku kpu iu au => ?_))⟩
    have u2 := ku.same _ _ (by omega) i2 rfl
    have u3 := ku.same _ _ (by omega) i3 rfl
    have lt : D + 1 < U.heap.size := (Array.getElem?_eq_some_iff.1 u2).1
    obtain ⟨busy, hbusy⟩ : ∃ b : Obj, b = .loop { rec .ready none with state := .busy } := ⟨_, rfl⟩
    obtain ⟨U2, hU2⟩ : ∃ U2, U.putObj (D + 1) busy = U2 := ⟨_, rfl⟩
    have v2 : U2.heap[D + 1]? = some busy := by rw [← hU2]; exact World.putObj_heap_same lt
    have v3 : U2.heap[D]? = some (.deferred (some [])) := by rw [← hU2]; exact (World.putObj_heap_other (by omega)).trans u3
    have kpb : Kp U U2 := by rw [← hU2]; exact kb _ _ _ _ (by omega) u2 rfl rfl
    refine ⟨U2, by rw [← hU2, hbusy]; exact run_beginRound u2 (by rw [hrec]), ?_⟩
    refine wpIn_mono (hbody _ s x a' U2 (by omega) ⟨_, by rw [v2, hbusy]⟩ (by rw [← hU2]; exact hI.putObj _ iu (by omega) u2 rfl) (by rw [← hU2]; exact (hAx s x a').putObj (s := ()) _ au (by omega) u2 rfl)) ?_
    have ends : ∀ (jump : Option Code) (X : World), KeepsFrom w.heap.size U2 X → X.heap[D + 1]? = some busy ∧ (Instr.endRound (D + 1) jump).run P X = .ok (.bool jump.isNone) (X.putObj (D + 1) (.loop (rec (if jump.isNone then .ready else .done) jump))) ∧ (X.putObj (D + 1) (.loop (rec (if jump.isNone then .ready else .done) jump))).heap[D + 1]? = some (.loop (rec (if jump.isNone then .ready else .done) jump)) ∧ (X.putObj (D + 1) (.loop (rec (if jump.isNone then .ready else .done) jump))).heap[D]? = some (.deferred (some [])) := fun jump X kx => by
      have y2 := kx.same _ _ (by omega) v2 (by rw [hbusy]; rfl)
      have y3 := kx.same _ _ (by omega) v3 rfl
      have y4 := y2
      rw [hbusy] at y4
      have q := run_endRound (P := P) jump y4
      rw [hrec] at q ⊢
      exact ⟨y2, q, World.putObj_heap_same (Array.getElem?_eq_some_iff.1 y2).1, (World.putObj_heap_other (by omega)).trans y3⟩
    rintro e a3 X hp
    rcases hp with ⟨rfl, kx, kpx, ix⟩ | ⟨c, he, kx, ixx⟩
    · obtain ⟨y1, y2, y3, y4⟩ := ends none X kx
      exact ⟨_, _, y2, .inl ⟨rfl, ⟨hI.putObj _ ix (by omega) y1 (by rw [hbusy]; rfl), y3, y4⟩, kt kpu (kt (kt kpb kpx) (kb _ _ _ _ (by omega) y1 (by rw [hbusy]; rfl) (by rw [hbusy]; rfl)))⟩⟩
    · obtain ⟨y1, y2, y3, y4⟩ := ends (some c) X kx
      have fin : (∃ v V', (Instr.endRound (D + 1) (some c)).run P X = .ok v V' ∧ ((Ending.returned v = Ending.returned (.bool true) ∧ (I (nx s x) V' ∧ V'.heap[D + 1]? = some (.loop (rec .ready none)) ∧ V'.heap[D]? = some (.deferred (some []))) ∧ Kp W V') ∨ (Ending.returned v = Ending.returned (.bool false) ∧ ∃ c, Ix c (nx s x) V' ∧ V'.heap[D + 1]? = some (.loop (rec .done (some c))) ∧ V'.heap[D]? = some (.deferred (some []))))) :=
        ⟨_, _, y2, .inr ⟨rfl, c, (hIx c).putObj _ ixx (by omega) y1 (by rw [hbusy]; rfl), y3, y4⟩⟩
      rcases he with ⟨rfl, rfl⟩ | ⟨id, rfl, rfl⟩
      · exact fin
      · exact fin
  · rintro e W ⟨⟨v, rfl⟩, ⟨s, hs, i1, i2, i3⟩ | ⟨s, c, i1, i2, i3⟩⟩
    · refine ⟨none, _, by have q := run_endLoop (P := P) i2 (by rw [hrec]; simp); rw [hrec] at q; exact q, ?_⟩
      exact hdone D s _ (by omega) hs (hI.putObj _ i1 (by omega) i2 rfl) ((World.putObj_heap_other (by omega)).trans i3)
    · refine ⟨some c, _, by have q := run_endLoop (P := P) i2 (by rw [hrec]; simp); rw [hrec] at q; exact q, ?_⟩
      exact hstop D c s _ (by omega) ((hIx c).putObj _ i1 (by omega) i2 rfl) ((World.putObj_heap_other (by omega)).trans i3)
attribute [local go_sem] Oper.semAt_some
/-- What lay below, and two boxes, lie as they lay. -/
structure Ky (n₀ x y : Nat) (W W' : World) : Prop where
  below : Below n₀ W W'
  x_ : W'.heap[x]? = W.heap[x]?
  y_ : W'.heap[y]? = W.heap[y]?
theorem Ky.refl (n₀ x y : Nat) (W : World) : Ky n₀ x y W W := ⟨Below.refl _ _, rfl, rfl⟩
theorem Ky.trans {n₀ x y : Nat} {A B C : World} (h : Ky n₀ x y A B) (k : Ky n₀ x y B C) : Ky n₀ x y A C := ⟨h.below.trans k.below, k.x_.trans h.x_, k.y_.trans h.y_⟩
theorem Ky.keep {n₀ x y : Nat} {A B : World} (hn : n₀ ≤ A.heap.size) (hx : x < A.heap.size) (hy : y < A.heap.size) (h : Below A.heap.size A B) : Ky n₀ x y A B := ⟨h.mono hn, h.block x hx, h.block y hy⟩
/-- A granule that is handed out: its index, its ticks. -/
structure Ow where
  i : Int
  ao : Option Addr
  n : Nat
  c : Nat
def owv (x : Ow) : Array Value := #[.int .i64 x.i, .slice x.ao x.n x.c]
/-- All granules that exist, from one on, up to the last of these. -/
structure Vis (F : Fv) (first : Int) (pre : List Int) : Prop where
  ex : ∀ k ∈ pre, Ex F k ∧ first ≤ k
  inc : pre.Pairwise (· < ·)
  all : ∀ k, Ex F k → first ≤ k → (∃ m ∈ pre, k ≤ m) → k ∈ pre
def OwR (F : Fv) (first : Int) (pre : List Int) (x : Ow) (W : World) : Prop := Vis F first (pre ++ [x.i]) ∧ SpAt W x.ao x.n x.c (gr F x.i)
def OwS (F : Fv) (first : Int) (pre : List Int) : Prop := Vis F first pre ∧ ∀ k, Ex F k → first ≤ k → k ∈ pre
/-- Where the iterator stands. -/
structure OwAt (F : Fv) (first : Int) (pre : List Int) (i : Int) (ok : Bool) : Prop where
  vis : Vis F first pre
  here : ok = true → InR i ∧ gr F i ≠ [] ∧ first ≤ i ∧ (∀ k, Ex F k → first ≤ k → k < i → k ∈ pre) ∧ ∀ k ∈ pre, k < i
  done : ok = false → ∀ k, Ex F k → first ≤ k → k ∈ pre
theorem owAt_zero {F : Fv} {first : Int} (h : Ex F first) : OwAt F first [] first true := ⟨⟨(fun k h => by cases h), List.Pairwise.nil, fun k _ _ ⟨m, h, _⟩ => by cases h⟩, fun _ => ⟨h.1, h.2.2, Int.le_refl _, (fun k _ a b => by omega), fun k h => by cases h⟩, fun e => by cases e⟩
theorem owAt_vis {F : Fv} {first i : Int} {pre : List Int} (h : OwAt F first pre i true) (e : Ex F i) : Vis F first (pre ++ [i]) := by
  obtain ⟨a, b, c, d, f⟩ := h.here rfl
  refine ⟨fun k hk => ?_, ?_, fun k k1 k2 k3 => ?_⟩
  · rcases List.mem_append.1 hk with q | q
    · exact h.vis.ex k q
    · rw [List.mem_singleton.1 q]; exact ⟨e, c⟩
  · rw [List.pairwise_append]
    exact ⟨h.vis.inc, List.pairwise_singleton _ _, fun x hx y hy => by rw [List.mem_singleton.1 hy]; exact f x hx⟩
  · obtain ⟨m, hm, km⟩ := k3
    rcases Int.lt_trichotomy k i with z | rfl | z
    · exact List.mem_append.2 (.inl (d k k1 k2 z))
    · simp
    · rcases List.mem_append.1 hm with q | q
      · have := f m q; omega
      · rw [List.mem_singleton.1 q] at km; omega
theorem owAt_next {F : Fv} {first i j : Int} {pre : List Int} {ok : Bool} (h : OwAt F first pre i true) (e : Ex F i) (u : UpIs F i j ok) : OwAt F first (pre ++ [i]) j ok := by
  obtain ⟨a, b, c, d, f⟩ := h.here rfl
  have old : ∀ k, Ex F k → first ≤ k → k ≤ i → k ∈ pre ++ [i] := fun k k1 k2 k3 => by
    rcases Int.lt_or_eq_of_le k3 with z | rfl
    · exact List.mem_append.2 (.inl (d k k1 k2 z))
    · simp
  refine ⟨owAt_vis h e, fun z => ?_, fun z k k1 k2 => ?_⟩
  · obtain ⟨u1, u2, u3, u4⟩ := u.1 z
    refine ⟨u1, u3, by omega, fun k k1 k2 k3 => ?_, fun k hk => ?_⟩
    · rcases Int.lt_or_le i k with y | y
      · exact absurd (u4 k y k3 k1.1) k1.2.2
      · exact old k k1 k2 y
    · rcases List.mem_append.1 hk with q | q
      · have := f k q; omega
      · rw [List.mem_singleton.1 q]; exact u2
  · rcases Int.lt_or_le i k with y | y
    · exact absurd (u.2 z k y k1.1) k1.2.2
    · exact old k k1 k2 y
theorem owAt_stop {F : Fv} (rt : F.Rt) (ok : F.Ok) (hl : F.cs.length = F.cn) {first i : Int} {pre : List Int} (h0 : Ex F first) (h : OwAt F first pre i true) (e : ¬ Ex F i) : OwS F first pre := by
  obtain ⟨a, b, c, d, f⟩ := h.here rfl
  refine ⟨h.vis, fun k k1 k2 => ?_⟩
  rcases Int.lt_trichotomy k i with z | rfl | z
  · exact d k k1 k2 z
  · exact absurd k1 e
  · exfalso
    have fi : first < i := by
      rcases Int.lt_or_eq_of_le c with y | rfl
      · exact y
      · exact absurd h0 e
    have o1 := ex_order rt ok hl h0.1 a fi h0.2.2 b
    have o2 := ex_order rt ok hl a k1.1 z b k1.2.2
    have r1 := hull_rng h0.2.1 h0.2.2
    have r2 := hull_rng k1.2.1 k1.2.2
    exact e ⟨a, gr_fit rt ok hl b (by omega) (by omega), b⟩
set_option maxRecDepth 100000 in
set_option maxHeartbeats 4000000 in
theorem onwards_in (F : Fv) (rt : F.Rt) (ok : F.Ok) (hl : F.cs.length = F.cn) (first : Int) (hfirst : Ex F first) (m : Nat) (hm : 1 ≤ m) (l x y n₀ : Nat) (J Jx : List Int → World → Prop) (W : World)
    (hY : ∀ pre z W, J pre W → OwR F first pre z W → YieldAt Fence.wide (m - 1) Tryz.prog l (owv z) W fun e W' =>
      (e = .returned (.bool true) ∧ J (pre ++ [z.i]) W' ∧ Ky n₀ x y W W') ∨ (e = .returned (.bool false) ∧ Jx (pre ++ [z.i]) W'))
    (hJ : AbidesFrom W.heap.size J) (hn : n₀ ≤ W.heap.size) (hx : x < W.heap.size) (hy' : y < W.heap.size)
    (hk : ∀ W', Ky n₀ x y W W' → F.At W' ∧ W'.cell? ⟨x, 0, none⟩ = some (.int .i64 first) ∧ W'.heap[y]? = some (.cells F.box 25 (0, 0))) (h0 : J [] W) :
    CallsIn Fence.wide m Tryz.prog 67 #[.func (.yield l) #[] #[], .pointer (some ⟨x, 0, none⟩), .pointer (some ⟨y, 0, none⟩)] W fun e W' => (∃ v, e = .returned v) ∧
      ((∃ xs, OwS F first xs ∧ J xs W') ∨ (∃ pre, Jx pre W')) := by
  have HK := Lib.hid hk
  have HY := Lib.hid hY
  have HJ := Lib.hid hJ
  have HR := Lib.hid rt
  have HO := Lib.hid ok
  have HL := Lib.hid hl
  have HE0 := Lib.hid hfirst
  have HXX := Lib.hid (fun i W h => exists_any F i W h ok)
  have HBH := Lib.hid (fun i W h (a : InR i) => behind2_any F i W h ok (by have := a.1; omega) (by have := a.2; omega))
  have HSZ : Hid (n₀ ≤ W.heap.size ∧ x < W.heap.size ∧ y < W.heap.size) := Lib.hid ⟨hn, hx, hy'⟩
  clear hk hY hJ rt ok hl hn hx hy'
  obtain ⟨P, N, co, cn, cc, oo, on, oc, cs, os⟩ := F
  have HXX : Hid (∀ i W, Fv.At ⟨P, N, co, cn, cc, oo, on, oc, cs, os⟩ W → Calls Tryz.prog 25 #[.agg #[.int .i64 P, .int .i64 N, .slice co cn cc, .slice oo on oc], .int .i64 i] W fun e w' => ExOut ⟨P, N, co, cn, cc, oo, on, oc, cs, os⟩ i e w' ∧ Hid (Below W.heap.size W w')) := HXX
  have HBH : Hid (∀ i W, Fv.At ⟨P, N, co, cn, cc, oo, on, oc, cs, os⟩ W → InR i → Calls Tryz.prog 34 #[.agg #[.int .i64 P, .int .i64 N, .slice co cn cc, .slice oo on oc], .int .i64 i] W fun e w' => IbOut (UpIs ⟨P, N, co, cn, cc, oo, on, oc, cs, os⟩ i) e ∧ Hid (Below W.heap.size W w')) := HBH
  have HK : Hid (∀ W', Ky n₀ x y W W' → Fv.At ⟨P, N, co, cn, cc, oo, on, oc, cs, os⟩ W' ∧ W'.cell? ⟨x, 0, none⟩ = some (.int .i64 first) ∧ W'.heap[y]? = some (.cells #[.int .i64 P, .int .i64 N, .slice co cn cc, .slice oo on oc] 25 (0, 0))) := HK
  refine callsIn_of_wp Tryz.func67 rfl trivial ?_ rfl
  simp only [Tryz.ntmps67, List.size_toArray, List.length_cons, List.length_nil, Nat.reduceAdd, Nat.reduceSub, Array.replicate_succ, Array.replicate_zero, List.push_toArray, List.append_toArray, List.nil_append, List.cons_append]
  have c0 := (HK.out W (Ky.refl _ _ _ _)).2.1
  gi_wp2
  clear c0
  gi_loopw [4, 5] (fun ii oo' wr => ∃ (pre : List Int) (i : Int) (ok : Bool), ii = .int .i64 i ∧ oo' = .bool ok ∧ Hid (OwAt ⟨P, N, co, cn, cc, oo, on, oc, cs, os⟩ first pre i ok) ∧ Hid (J pre wr) ∧ Hid (Ky n₀ x y W wr)) (fun ii oo' _ => match oo' with | .bool true => (1099511627777 - intOf ii).toNat + 1 | _ => 0)
  case atStart => exact ⟨[], first, true, rfl, rfl, Lib.hid (owAt_zero HE0.out), Lib.hid h0, Lib.hid (Ky.refl _ _ _ _)⟩
  case round =>
    obtain ⟨pre, i, ok, rfl, rfl, HA, HJ0, HB⟩ := hrel
    have HC := Lib.hid (HK.out _ HB.out)
    have HS2 : Hid (n₀ ≤ wr.heap.size ∧ x < wr.heap.size ∧ y < wr.heap.size) := Lib.hid ⟨Nat.le_trans HSZ.out.1 HB.out.below.size, cell_here HC.out.2.1, (Array.getElem?_eq_some_iff.1 HC.out.2.2).1⟩
    cases ok
    · have HZ : Hid (OwS ⟨P, N, co, cn, cc, oo, on, oc, cs, os⟩ first pre) := Lib.hid ⟨HA.out.vis, HA.out.done rfl⟩
      gi_wp2
      go_end0
      exact ⟨⟨_, rfl⟩, .inl ⟨pre, HZ.out, HJ0.out⟩⟩
    · have HIR := Lib.hid (HA.out.here rfl).1
      have i1 : -1099511627776 ≤ i := HIR.out.1
      have i2 : i ≤ 1099511627776 := HIR.out.2
      have e0 : wr.cell? ⟨y, 0, none⟩ = some (.int .i64 P) := cell_block HC.out.2.2 0
      have e1 : wr.cell? ⟨y, 1, none⟩ = some (.int .i64 N) := cell_block HC.out.2.2 1
      have e2 : wr.cell? ⟨y, 2, none⟩ = some (.slice co cn cc) := cell_block HC.out.2.2 2
      have e3 : wr.cell? ⟨y, 3, none⟩ = some (.slice oo on oc) := cell_block HC.out.2.2 3
      gi_wp2
      refine ⟨trivial, ?_⟩
      refine (callsIn_wide.2 (HXX.out i _ HC.out.1)).mono ?_
      rintro e w4 ⟨⟨ao, n, c, L, ok2, rfl, hs, h1, h2⟩, q⟩
      have HQ := q
      have HJ4 : Hid (J pre w4) := Lib.hid (HJ.out pre _ _ none HJ0.out (grown_of_below q.out) (fun r e => by cases e))
      have HB4 : Hid (Ky n₀ x y W w4) := Lib.hid (HB.out.trans (Ky.keep HS2.out.1 HS2.out.2.1 HS2.out.2.2 q.out))
      clear e0 e1 e2 e3 q
      cases ok2
      · have HZ : Hid (OwS ⟨P, N, co, cn, cc, oo, on, oc, cs, os⟩ first pre) := Lib.hid (owAt_stop HR.out HO.out HL.out HE0.out HA.out (fun z => by have := h1.2 z; cases this))
        clear hs h1 h2
        gi_wp2
        refine ⟨fun _ h => (by cases h), ?_⟩
        gi_wp2
        refine bodyPost_ret (results_none rfl _ _ _) rfl ?_
        exact ⟨⟨_, rfl⟩, .inl ⟨pre, HZ.out, HJ4.out⟩⟩
      · have HEX := Lib.hid (h1.1 rfl)
        have hL := h2 rfl
        subst hL
        have HRX : Hid (OwR ⟨P, N, co, cn, cc, oo, on, oc, cs, os⟩ first pre ⟨i, ao, n, c⟩ w4) := Lib.hid ⟨owAt_vis HA.out HEX.out, hs⟩
        obtain ⟨fn, tmps, assign, body, hy, hR⟩ := HY.out pre ⟨i, ao, n, c⟩ w4 HJ4.out HRX.out
        have HRr := Lib.hid hR
        clear hR hs h1 h2
        dsimp only [owv] at hy
        gi_wp2
        refine HRr.out.mono ?_
        rintro e w5 (⟨rfl, hJ3, hk3⟩ | ⟨rfl, hJx3⟩)
        · have HJ5 := Lib.hid hJ3
          have HB5 := Lib.hid (HB4.out.trans hk3)
          have HC5 := Lib.hid (HK.out _ HB5.out)
          have HS5 : Hid (n₀ ≤ w5.heap.size ∧ x < w5.heap.size ∧ y < w5.heap.size) := Lib.hid ⟨Nat.le_trans HSZ.out.1 HB5.out.below.size, cell_here HC5.out.2.1, (Array.getElem?_eq_some_iff.1 HC5.out.2.2).1⟩
          have e0 : w5.cell? ⟨y, 0, none⟩ = some (.int .i64 P) := cell_block HC5.out.2.2 0
          have e1 : w5.cell? ⟨y, 1, none⟩ = some (.int .i64 N) := cell_block HC5.out.2.2 1
          have e2 : w5.cell? ⟨y, 2, none⟩ = some (.slice co cn cc) := cell_block HC5.out.2.2 2
          have e3 : w5.cell? ⟨y, 3, none⟩ = some (.slice oo on oc) := cell_block HC5.out.2.2 3
          clear hy hJ3 hk3 HRr
          gi_wp2
          refine ⟨trivial, ?_⟩
          refine (callsIn_wide.2 (HBH.out i _ HC5.out.1 HIR.out)).mono ?_
          rintro e w6 ⟨⟨j, okb, rfl, hu⟩, q⟩
          have HJ6 : Hid (J (pre ++ [i]) w6) := Lib.hid (HJ.out _ _ _ none HJ5.out (grown_of_below q.out) (fun r e => by cases e))
          have HB6 : Hid (Ky n₀ x y W w6) := Lib.hid (HB5.out.trans (Ky.keep HS5.out.1 HS5.out.2.1 HS5.out.2.2 q.out))
          have HA6 := Lib.hid (owAt_next HA.out HEX.out hu)
          have HU := Lib.hid hu
          clear e0 e1 e2 e3 q hu
          cases okb
          · gi_wp2
            go_roundw
            case rel => exact ⟨_, j, false, rfl, rfl, HA6, HJ6, HB6⟩
            case measure => simp [intOf]
          · have HJI := Lib.hid (HU.out.1 rfl)
            have j1 : i < j := HJI.out.2.1
            have j2 : j ≤ 1099511627776 := HJI.out.1.2
            gi_wp2
            go_roundw
            case rel => exact ⟨_, j, true, rfl, rfl, HA6, HJ6, HB6⟩
            case measure => simp [intOf]; omega
        · have HJx3 := Lib.hid hJx3
          clear hy hJx3 HRr
          gi_wp2
          refine bodyPost_ret (results_none rfl _ _ _) rfl ?_
          exact ⟨⟨_, rfl⟩, .inr ⟨_, HJx3.out⟩⟩
def MeetL (F : Fv) (l : List Sp) (k : Int) : Prop := ∃ t, mem (gr F k) t ∧ mem l t
def HMeet (F : Fv) (l : List Sp) (k : Int) : Prop := ∃ t, mem (gr F k) t ∧ hullA l ≤ t ∧ t ≤ hullB l
def OverIs (F : Fv) (l : List Sp) (xs : List Int) (k : Int) : Prop :=
  (k = 50 ∧ xs = [] ∧ ¬ Good l) ∨
  (Good l ∧ k = 0 ∧ xs.Pairwise (· < ·) ∧ (∀ i, i ∈ xs ↔ Ex F i ∧ MeetL F l i) ∧ (l ≠ [] → ∀ ys : List Int, ys.Pairwise (· < ·) → (∀ i ∈ ys, Ex F i ∧ HMeet F l i) → ys.length ≤ 60000)) ∨
  (Good l ∧ k = 3 ∧ xs = [] ∧ ∃ ys : List Int, ys.Pairwise (· < ·) ∧ ys.length = 60001 ∧ ∀ i ∈ ys, Ex F i ∧ HMeet F l i)
theorem sorted_len : ∀ {ys zs : List Int}, zs.Pairwise (· < ·) → ys.Pairwise (· < ·) → (∀ x ∈ zs, x ∈ ys) → zs.length ≤ ys.length
  | ys, [], _, _, _ => Nat.zero_le _
  | [], z :: s, _, _, h => by have := h z (List.mem_cons_self ..); cases this
  | y :: r, z :: s, hz, hy, h => by
    rw [List.pairwise_cons] at hz hy
    have hs : ∀ x ∈ s, x ∈ r := fun x hx => by
      rcases List.mem_cons.1 (h x (List.mem_cons_of_mem _ hx)) with rfl | q
      · exfalso
        have a := hz.1 x hx
        rcases List.mem_cons.1 (h z (List.mem_cons_self ..)) with rfl | q
        · omega
        · have := hy.1 z q; omega
      · exact q
    have := sorted_len hz.2 hy.2 hs
    simp only [List.length_cons]
    omega
/-- How far it has come. -/
structure Ov (F : Fv) (l : List Sp) (pre xs ys : List Int) : Prop where
  xi : xs.Pairwise (· < ·)
  xm : ∀ i, i ∈ xs ↔ i ∈ pre ∧ MeetL F l i
  yi : ys.Pairwise (· < ·)
  ym : ∀ i, i ∈ ys ↔ i ∈ pre ∧ HMeet F l i
theorem Ov.zero (F : Fv) (l : List Sp) : Ov F l [] [] [] := ⟨List.Pairwise.nil, by simp, List.Pairwise.nil, by simp⟩
theorem snoc_inc {xs pre : List Int} {x : Int} (h : xs.Pairwise (· < ·)) (hs : ∀ i ∈ xs, i ∈ pre) (hp : (pre ++ [x]).Pairwise (· < ·)) : (xs ++ [x]).Pairwise (· < ·) := by
  rw [List.pairwise_append] at hp ⊢
  exact ⟨h, List.pairwise_singleton _ _, fun a ha b hb => hp.2.2 a (hs a ha) b hb⟩
theorem snoc_mem {xs pre : List Int} {x : Int} {p : Int → Prop} (h : ∀ i, i ∈ xs ↔ i ∈ pre ∧ p i) (hp : p x) : ∀ i, i ∈ xs ++ [x] ↔ i ∈ pre ++ [x] ∧ p i := fun i => by
  simp only [List.mem_append, List.mem_singleton, h i]
  constructor
  · rintro (⟨a, b⟩ | rfl)
    · exact ⟨.inl a, b⟩
    · exact ⟨.inr rfl, hp⟩
  · rintro ⟨a | rfl, b⟩
    · exact .inl ⟨a, b⟩
    · exact .inr rfl
theorem snoc_not {xs pre : List Int} {x : Int} {p : Int → Prop} (h : ∀ i, i ∈ xs ↔ i ∈ pre ∧ p i) (hp : ¬ p x) : ∀ i, i ∈ xs ↔ i ∈ pre ++ [x] ∧ p i := fun i => by
  simp only [List.mem_append, List.mem_singleton, h i]
  constructor
  · rintro ⟨a, b⟩; exact ⟨.inl a, b⟩
  · rintro ⟨a | rfl, b⟩
    · exact ⟨a, b⟩
    · exact absurd b hp
theorem mem_hull {l : List Sp} (g : Good l) {t : Int} (h : mem l t) : hullA l ≤ t ∧ t ≤ hullB l := by
  obtain ⟨s, hs, a, b⟩ := h
  exact ⟨Int.le_trans (hullA_le g hs) a, Int.le_trans b (le_hullB g hs)⟩
theorem meet_hmeet {F : Fv} {l : List Sp} (g : Good l) {k : Int} (h : MeetL F l k) : HMeet F l k := by
  obtain ⟨t, a, b⟩ := h
  exact ⟨t, a, mem_hull g b⟩
theorem Ov.both {F : Fv} {l : List Sp} {pre xs ys : List Int} {x : Int} (h : Ov F l pre xs ys) (hp : (pre ++ [x]).Pairwise (· < ·)) (a : MeetL F l x) (b : HMeet F l x) : Ov F l (pre ++ [x]) (xs ++ [x]) (ys ++ [x]) :=
  ⟨snoc_inc h.xi (fun i hi => ((h.xm i).1 hi).1) hp, snoc_mem h.xm a, snoc_inc h.yi (fun i hi => ((h.ym i).1 hi).1) hp, snoc_mem h.ym b⟩
theorem Ov.one {F : Fv} {l : List Sp} {pre xs ys : List Int} {x : Int} (h : Ov F l pre xs ys) (hp : (pre ++ [x]).Pairwise (· < ·)) (a : ¬ MeetL F l x) (b : HMeet F l x) : Ov F l (pre ++ [x]) xs (ys ++ [x]) :=
  ⟨h.xi, snoc_not h.xm a, snoc_inc h.yi (fun i hi => ((h.ym i).1 hi).1) hp, snoc_mem h.ym b⟩
theorem Ov.none {F : Fv} {l : List Sp} {pre xs ys : List Int} {x : Int} (h : Ov F l pre xs ys) (a : ¬ MeetL F l x) (b : ¬ HMeet F l x) : Ov F l (pre ++ [x]) xs ys :=
  ⟨h.xi, snoc_not h.xm a, h.yi, snoc_not h.ym b⟩
theorem gr_good' {F : Fv} (ok : F.Ok) {k : Int} (h : Ex F k) : Good (gr F k) := gr_good ok h.2.1
theorem gr_mem_hull {F : Fv} (ok : F.Ok) {k t : Int} (h : Ex F k) (m : mem (gr F k) t) : hullA (gr F k) ≤ t ∧ t ≤ hullB (gr F k) := mem_hull (gr_good' ok h) m
/-- All were looked at. -/
theorem over_all {F : Fv} (ok : F.Ok) {l : List Sp} (g : Good l) {first : Int} {pre xs ys : List Int} (hf : FromIs F (hullA l) first true) (hs : OwS F first pre) (h : Ov F l pre xs ys) (hc : ys.length ≤ 60000) : OverIs F l xs 0 := by
  have far : ∀ k, Ex F k → HMeet F l k → k ∈ pre := fun k e ⟨t, m, a, b⟩ => by
    have := gr_mem_hull ok e m
    exact hs.2 k e ((hf.1 rfl).2.2 k e (by omega))
  refine .inr (.inl ⟨g, rfl, h.xi, fun i => ⟨fun q => ?_, fun q => ?_⟩, fun _ zs z1 z2 => ?_⟩)
  · obtain ⟨a, b⟩ := (h.xm i).1 q; exact ⟨(hs.1.ex i a).1, b⟩
  · exact (h.xm i).2 ⟨far i q.1 (meet_hmeet g q.2), q.2⟩
  · exact Nat.le_trans (sorted_len z1 h.yi (fun x hx => (h.ym x).2 ⟨far x (z2 x hx).1 (z2 x hx).2, (z2 x hx).2⟩)) hc
/-- One lies behind the set. -/
theorem over_break {F : Fv} (rt : F.Rt) (ok : F.Ok) (hl : F.cs.length = F.cn) {l : List Sp} (g : Good l) {first x : Int} {pre xs ys : List Int} (hf : FromIs F (hullA l) first true) (hv : Vis F first (pre ++ [x])) (hx : hullB l < hullA (gr F x)) (h : Ov F l pre xs ys) (hc : ys.length ≤ 60000) : OverIs F l xs 0 := by
  have ex := hv.ex x (by simp)
  have far : ∀ k, Ex F k → HMeet F l k → k ∈ pre := fun k e ⟨t, m, a, b⟩ => by
    have q := gr_mem_hull ok e m
    have fk := (hf.1 rfl).2.2 k e (by omega)
    rcases Int.lt_trichotomy k x with z | rfl | z
    · rcases List.mem_append.1 (hv.all k e fk ⟨x, by simp, by omega⟩) with y | y
      · exact y
      · rw [List.mem_singleton.1 y] at z; omega
    · omega
    · have := ex_order rt ok hl ex.1.1 e.1 z ex.1.2.2 e.2.2
      have := gr_le rt ok hl ex.1.2.2
      omega
  refine .inr (.inl ⟨g, rfl, h.xi, fun i => ⟨fun q => ?_, fun q => ?_⟩, fun _ zs z1 z2 => ?_⟩)
  · obtain ⟨a, b⟩ := (h.xm i).1 q; exact ⟨(hv.ex i (List.mem_append.2 (.inl a))).1, b⟩
  · exact (h.xm i).2 ⟨far i q.1 (meet_hmeet g q.2), q.2⟩
  · exact Nat.le_trans (sorted_len z1 h.yi (fun x hx => (h.ym x).2 ⟨far x (z2 x hx).1 (z2 x hx).2, (z2 x hx).2⟩)) hc
/-- Too many. -/
theorem over_long {F : Fv} {l : List Sp} (g : Good l) {first : Int} {pre xs ys : List Int} (hv : Vis F first pre) (h : Ov F l pre xs ys) (hc : ys.length = 60001) : OverIs F l [] 3 :=
  .inr (.inr ⟨g, rfl, rfl, ys, h.yi, hc, fun i hi => by obtain ⟨a, b⟩ := (h.ym i).1 hi; exact ⟨(hv.ex i a).1, b⟩⟩)
/-- Only the first one may miss the hull. -/
theorem over_hit {F : Fv} (rt : F.Rt) (ok : F.Ok) (hl : F.cs.length = F.cn) {l : List Sp} {first x : Int} (hf : FromIs F (hullA l) first true) (e : Ex F x) (lt : first < x) (q : hullA (gr F x) ≤ hullB l) : HMeet F l x := by
  obtain ⟨f1, f2, f3⟩ := hf.1 rfl
  have := ex_order rt ok hl f1.1 e.1 lt f1.2.2 e.2.2
  exact ⟨hullA (gr F x), (hull_mem (gr_good' ok e) e.2.2).1, by omega, q⟩
theorem over_none {F : Fv} (ok : F.Ok) {l : List Sp} (g : Good l) {first : Int} (hf : FromIs F (hullA l) first false) : OverIs F l [] 0 := by
  have no : ∀ k, Ex F k → ¬ HMeet F l k := fun k e ⟨t, m, a, b⟩ => by
    have := gr_mem_hull ok e m
    have := (hf.2 rfl).2 k e
    omega
  refine .inr (.inl ⟨g, rfl, List.Pairwise.nil, fun i => ⟨(fun q => by cases q), fun q => absurd (meet_hmeet g q.2) (no i q.1)⟩, fun _ zs z1 z2 => ?_⟩)
  cases zs with
  | nil => exact Nat.zero_le _
  | cons z r => exact absurd (z2 z (List.mem_cons_self ..)).2 (no z (z2 z (List.mem_cons_self ..)).1)
theorem over_nil (F : Fv) : OverIs F [] [] 0 :=
  .inr (.inl ⟨trivial, rfl, List.Pairwise.nil, fun i => ⟨(fun q => by cases q), fun q => by obtain ⟨_, t, _, m⟩ := q; exact absurd m (mem_nil t)⟩, fun h => absurd rfl h⟩)
theorem good_one {a b : Int} (h : a ≤ b) (h1 : -1099511627776 ≤ a) (h2 : b ≤ 1099511627776) : Good [(a, b)] := ⟨h1, h, h2, trivial⟩
end Go.Proofs.YtjhbgedobkpdhaaGreat
