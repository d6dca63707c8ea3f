/- Ported. -/
import Derived.Test.YtjhbgedobkpdhaaGreatEe
import Derived.Sort.BigQuietIn
namespace Go.Proofs.YtjhbgedobkpdhaaGreat
set_option linter.unusedVariables false
set_option linter.unusedSimpArgs false
open Go.ChangeShapes Go.WideShapes Go.ChangeAt Go.RowKit Go.Shelf
attribute [local go_sem] Oper.semAt_some
/-- An operation that defers nothing is carried out within a round as it is anywhere. -/
theorem opIn_round {n : Nat} {P : Program} {l : Nat} {o : Oper} (hnd : ∀ c, o.op ≠ .defer c) {a : Act} {w : World} {K : Act → World → Prop} {Q : Exit → Act → World → Prop} (h : o.wpIn Fence.wide n P a w K Q) : o.wpIn (Fence.wide.inRound l) n P a w K Q := by
  unfold Oper.wpIn at *
  refine ⟨h.1, ?_⟩
  have h2 := h.2
  show o.uponIn (Fence.wide.inRound l) n P a K Q ((o.semAt (some l) a.eval).run P w)
  rw [Oper.semAt_some l _ _ hnd]
  have e : o.semAt Fence.wide.round a.eval = execOp a.eval o := Oper.semAt_none ..
  rw [e] at h2
  generalize (execOp a.eval o).run P w = r at *
  cases r with
  | ok x w' => cases x <;> exact h2
  | halt x w' => cases x <;> exact h2
def undeferred (o : Oper) : Bool := match o.op with
  | .defer _ => false
  | _ => true
theorem undeferred_spec {o : Oper} (h : undeferred o = true) : ∀ c, o.op ≠ .defer c := by
  intro c e
  unfold undeferred at h
  rw [e] at h
  cases h
theorem anyIn_round {n : Nat} {P : Program} {l : Nat} {md : Region.Mode} {ops : Array Oper} {Q : Exit → Act → World → Prop} (hnd : ops.all undeferred = true) : ∀ (fuel : Nat) (listed : Array Bool) (a : Act) (w : World), wpAnyIn Fence.wide n P md ops Q fuel listed a w → wpAnyIn (Fence.wide.inRound l) n P md ops Q fuel listed a w := by
  intro fuel
  induction fuel with
  | zero => intro listed a w h; exact h
  | succ fuel ih =>
    intro listed a w h
    refine ⟨h.1, fun i hi => ?_⟩
    have h2 := wpOpIn_mono (fun a w => ih _ a w) (h.2 i hi)
    unfold wpOpIn at h2 ⊢
    cases e : ops[i]? with
    | none => rw [e] at h2; exact h2
    | some o =>
      rw [e] at h2
      have ho : undeferred o = true := by
        obtain ⟨hlt, rfl⟩ := Array.getElem?_eq_some_iff.1 e
        exact Array.all_eq_true.1 hnd i hlt
      dsimp only at h2 ⊢
      by_cases q : Region.wanted o (yielded ops a.tmps) = true
      · rw [if_pos q] at h2 ⊢; exact opIn_round (undeferred_spec ho) h2
      · rw [if_neg q] at h2 ⊢; exact h2
theorem drawn_round {n l id : Nat} {P : Program} {ops : Array Oper} {Q : Exit → Act → World → Prop} {a : Act} {w : World} (hm : P.follows .mixedOrders = true) (hnd : ops.all undeferred = true) (h : wpAnyIn Fence.wide n P .any ops Q ops.size (Array.replicate ops.size false) a w.drew) : (Code.region id ops true).wpIn (Fence.wide.inRound l) n P Q a w :=
  wpIn_region_any hm (anyIn_round hnd _ _ _ _ h)
theorem wpIn_scope_wide {n : Nat} {P : Program} {c : Code} {Q : Exit → Act → World → Prop} {a : Act} {w : World} (h : c.wpIn Fence.wide n P (Exit.noGoto Q) a w) : (Code.scope c).wpIn Fence.wide n P Q a w := wpIn_wide.2 (wp_scope_straight (wpIn_wide.1 h))
/-- A world in which all that lay still lies as it lay. -/
structure Cls (W : World) where
  w : World
  h : Below W.heap.size W w
instance (W : World) : Inhabited (Cls W) := ⟨⟨W, Below.refl _ _⟩⟩
theorem quiet_round {n l id : Nat} {P : Program} {W : World} {Q : Exit → Act → World → Prop} {a : Act} {w : World} {lst : List Oper} (hm : P.follows .mixedOrders = true) (hnd : lst.toArray.all undeferred = true) (hB : Region.lexB .any lst.toArray = true) (hC : Below W.heap.size W w)
    (h : wpQuietIn Fence.wide n P lst.toArray (fun w' => ∃ p : Cls W, w' = p.w) (fun a' => ∀ w', (∃ p : Cls W, w' = p.w) → Q .normal a' w') lst a) : (Code.region id lst.toArray true).wpIn (Fence.wide.inRound l) n P Q a w := by
  simp only [Region.lexB, Bool.and_eq_true] at hB
  refine drawn_round hm hnd (wpAnyIn_of_quiet (C := fun w' => ∃ p : Cls W, w' = p.w) (Q := fun a' => ∀ w', (∃ p : Cls W, w' = p.w) → Q .normal a' w') rfl (fun _ w' hw' h => h w' hw') _ _ _ _ ⟨⟨w.drew, hC.drew⟩, rfl⟩ ?_)
  have := wpAnyQIn_lex (F := Fence.wide) (n := n) (C := fun w' => ∃ p : Cls W, w' = p.w) (md := .any) hB.1 lst 0 (Array.replicate lst.length false) a (by simp) (by simpa using hB.2) h
  simpa using this
theorem cls_call {P : Program} {n : Nat} {W : World} {p : Cls W} {f : FuncId} {args : Array Value} {v : Value} (h : Calls P f args p.w fun e w' => e = .returned v ∧ Below p.w.heap.size p.w w') : CallsIn Fence.wide n P f args p.w fun e w'' => e = .returned v ∧ ∃ q : Cls W, w'' = q.w :=
  (callsIn_wide.2 h).mono fun _ w'' ⟨he, hb⟩ => ⟨he, ⟨w'', p.h.trans (hb.mono p.h.size)⟩, rfl⟩
theorem keepsFrom_below {B : Nat} {W W' : World} (h : Below W.heap.size W W') : KeepsFrom B W W' := ⟨h.size, fun k o _ h0 _ => (h.block k (Array.getElem?_eq_some_iff.1 h0).1).trans h0⟩
theorem onwards_any (F : Fv) (i : Int) (w : World) (hF : F.At w) : Calls Tryz.prog 45 #[F.v, .int .i64 i] w fun e w' => ∃ x y, e = .returned (.func (.func 67) #[] #[.pointer (some ⟨x, 0, none⟩), .pointer (some ⟨y, 0, none⟩)]) ∧ Hid (w.heap.size ≤ x ∧ w.heap.size ≤ y ∧ w'.heap[x]? = some (.cells #[.int .i64 i] 3 (0, 0)) ∧ w'.heap[y]? = some (.cells F.box 25 (0, 0))) ∧ Hid (Below w.heap.size w w') := by
  obtain ⟨P, N, co, cn, cc, oo, on, oc, cs, os⟩ := F
  have LC : Hid (cs.length = cn) := Lib.hid hF.core.len
  have LO : Hid (os.length = on) := Lib.hid hF.odd.len
  have hmc : cn ≤ 9223372036854775807 := Nat.le_trans hF.core.le hF.core.top
  have hmo : on ≤ 9223372036854775807 := Nat.le_trans hF.odd.le hF.odd.top
  clear hF LC LO hmc hmo
  obtain ⟨b, hb⟩ : ∃ b, w.heap.size = b := ⟨_, rfl⟩
  show Calls Tryz.prog 45 #[.agg #[.int .i64 P, .int .i64 N, .slice co cn cc, .slice oo on oc], .int .i64 i] w _
  go_enter Tryz.func45, Tryz.ntmps45
  go_wp2
  rw [hb]
  have H : Hid (w.heap.size ≤ b + 1 ∧ w.heap.size ≤ b ∧ ((w.alloc (.cells #[.int .i64 P, .int .i64 N, .slice co cn cc, .slice oo on oc] 25)).alloc (.cells #[.int .i64 i] 3)).heap[b + 1]? = some (.cells #[.int .i64 i] 3 (0, 0)) ∧ ((w.alloc (.cells #[.int .i64 P, .int .i64 N, .slice co cn cc, .slice oo on oc] 25)).alloc (.cells #[.int .i64 i] 3)).heap[b]? = some (.cells #[.int .i64 P, .int .i64 N, .slice co cn cc, .slice oo on oc] 25 (0, 0))) := Lib.hid ⟨by omega, by omega, heap_at (by simp; omega), (Below.heap_alloc (w.alloc (.cells #[.int .i64 P, .int .i64 N, .slice co cn cc, .slice oo on oc] 25)) (.cells #[.int .i64 i] 3) b (by simp; omega)).trans (heap_at hb)⟩
  have H2 : Hid (Below w.heap.size w ((w.alloc (.cells #[.int .i64 P, .int .i64 N, .slice co cn cc, .slice oo on oc] 25)).alloc (.cells #[.int .i64 i] 3))) := Lib.hid (((Below.refl _ w).alloc (Nat.le_refl _) _).alloc (by simp) _)
  generalize (w.alloc (.cells #[.int .i64 P, .int .i64 N, .slice co cn cc, .slice oo on oc] 25)).alloc (.cells #[.int .i64 i] 3) = wf at H H2 ⊢
  go_returns
  rw [hb] at H H2
  exact ⟨b + 1, b, rfl, H, H2⟩
attribute [local go_sem] Oper.semAt_some
def ints (xs : List Int) : List Value := xs.map (fun i => .int .i64 i)
/-- What Over answers, in memory of its own. -/
def OverOut (F : Fv) (l : List Sp) (B : Nat) (e : Ending) (w : World) : Prop := ∃ (v : Value) (xs : List Int) (k : Int), e = .returned (.tuple #[v, .int .i64 k]) ∧ OverIs F l xs k ∧ w.ownsRow B 3 1 v xs.length (ints xs)
/-- The boxes of Over, at its beginning. -/
structure OvB (F : Fv) (lo : Option Addr) (ln lc : Nat) (w W : World) (b b1 b2 b3 : Nat) : Prop where
  bw : Below w.heap.size w W
  q0 : w.heap.size = b
  q1 : b1 = b + 1
  q2 : b2 = b + 2
  q3 : b3 = b + 3
  f : W.heap[b]? = some (.cells F.box 25 (0, 0))
  l_ : W.heap[b1]? = some (.cells #[.slice lo ln lc] 27 (0, 0))
  r : W.heap[b2]? = some (.cells #[.slice none 0 0] 41 (0, 0))
  e : W.heap[b3]? = some (.cells #[.int .i64 0] 34 (0, 0))
theorem OvB.keep {F : Fv} {lo : Option Addr} {ln lc : Nat} {w W W' : World} {b b1 b2 b3 : Nat} (h : OvB F lo ln lc w W b b1 b2 b3) (k : Below W.heap.size W W') : OvB F lo ln lc w W' b b1 b2 b3 :=
  have q : ∀ {j : Nat} {o : Obj}, W.heap[j]? = some o → W'.heap[j]? = some o := fun hj => (k.block _ (Array.getElem?_eq_some_iff.1 hj).1).trans hj
  ⟨h.bw.trans (k.mono h.bw.size), h.q0, h.q1, h.q2, h.q3, q h.f, q h.l_, q h.r, q h.e⟩
theorem ovB_new (F : Fv) (lo : Option Addr) (ln lc : Nat) (w : World) : OvB F lo ln lc w ((((w.alloc (.cells F.box 25)).alloc (.cells #[.slice lo ln lc] 27)).alloc (.cells #[.slice none 0 0] 41)).alloc (.cells #[.int .i64 0] 34)) w.heap.size (w.heap.size + 1) (w.heap.size + 2) (w.heap.size + 3) := by
  have a : ∀ (W : World) (o : Obj) (j : Nat), j < W.heap.size → (W.alloc o).heap[j]? = W.heap[j]? := fun W o j hj => Below.heap_alloc W o j hj
  refine ⟨((((Below.refl _ w).alloc (Nat.le_refl _) _).alloc (by simp) _).alloc (by simp; omega) _).alloc (by simp; omega) _, rfl, rfl, rfl, rfl, ?_, ?_, ?_, heap_at (by simp)⟩
  · rw [a _ _ _ (by simp; omega), a _ _ _ (by simp; omega), a _ _ _ (by simp)]; exact heap_at rfl
  · rw [a _ _ _ (by simp), a _ _ _ (by simp)]; exact heap_at (by simp)
  · rw [a _ _ _ (by simp)]; exact heap_at (by simp)
/-- What is stored at the end. -/
theorem OvB.out {F : Fv} {lo : Option Addr} {ln lc : Nat} {w W : World} {b b1 b2 b3 : Nat} (h : OvB F lo ln lc w W b b1 b2 b3) (v : Value) (k : Int) : ((W.setCell ⟨b2, 0, none⟩ v).setCell ⟨b3, 0, none⟩ (.int .i64 k)).cell? ⟨b2, 0, none⟩ = some v ∧ ((W.setCell ⟨b2, 0, none⟩ v).setCell ⟨b3, 0, none⟩ (.int .i64 k)).cell? ⟨b3, 0, none⟩ = some (.int .i64 k) ∧ Below w.heap.size w ((W.setCell ⟨b2, 0, none⟩ v).setCell ⟨b3, 0, none⟩ (.int .i64 k)) := by
  have l := h.q0
  have l2 := h.q2
  have l3 := h.q3
  have q1 := set_block h.r 0 v
  have q2 : (W.setCell ⟨b2, 0, none⟩ v).heap[b3]? = some (.cells #[.int .i64 0] 34 (0, 0)) := (Below.heap_setCell W ⟨b2, 0, none⟩ v b3 (by show b3 ≠ b2; omega)).trans h.e
  have q3 := set_block q2 0 (.int .i64 k)
  have q4 := (Below.heap_setCell (W.setCell ⟨b2, 0, none⟩ v) ⟨b3, 0, none⟩ (.int .i64 k) b2 (by show b2 ≠ b3; omega)).trans q1
  exact ⟨cell_block q4 0, cell_block q3 0, (h.bw.setCell (p := ⟨b2, 0, none⟩) (by show _ ≤ b2; omega) _).setCell (p := ⟨b3, 0, none⟩) (by show _ ≤ b3; omega) _⟩
/-- What region 10 lays: seen, and the hull as a set. -/
structure OvA (A Z : Int) (w6 W : World) (b10 b11 : Nat) : Prop where
  bw : Below w6.heap.size w6 W
  l1 : w6.heap.size ≤ b10
  l2 : w6.heap.size ≤ b11
  ne : ¬ b10 = b11
  s : W.heap[b10]? = some (.cells #[.int .i64 0] 3 (0, 0))
  a : ∃ g, w6.heap.size ≤ g ∧ ¬ g = b10 ∧ W.heap[b11]? = some (.cells #[.slice (some ⟨g, 0, none⟩) 1 1] 27 (0, 0)) ∧ W.heap[g]? = some (.cells #[.int .i64 A, .int .i64 Z] 38 (0, 0))
theorem ova_mk {A Z : Int} {w6 W : World} {b10 b11 g : Nat} (bw : Below w6.heap.size w6 W) (a1 : W.heap[b11]? = some (.cells #[.slice (some ⟨g, 0, none⟩) 1 1] 27 (0, 0))) (a2 : W.heap[g]? = some (.cells #[.int .i64 A, .int .i64 Z] 38 (0, 0))) (s : W.heap[b10]? = some (.cells #[.int .i64 0] 3 (0, 0))) (l1 : w6.heap.size ≤ b10) (l2 : w6.heap.size ≤ b11) (ne : ¬ b10 = b11) (l3 : w6.heap.size ≤ g) (ng : ¬ g = b10) : OvA A Z w6 W b10 b11 := ⟨bw, l1, l2, ne, s, g, l3, ng, a1, a2⟩
theorem three {w : World} {n : Nat} (h : w.heap.size = n) (o1 o2 o3 : Obj) : Below w.heap.size w ((((w.alloc o1).alloc o2).alloc o3).drew) ∧ ((((w.alloc o1).alloc o2).alloc o3).drew).heap[n]? = some o1 ∧ ((((w.alloc o1).alloc o2).alloc o3).drew).heap[n + 1]? = some o2 ∧ ((((w.alloc o1).alloc o2).alloc o3).drew).heap[n + 1 + 1]? = some o3 := by
  have a : ∀ (W : World) (o : Obj) (j : Nat), j < W.heap.size → (W.alloc o).heap[j]? = W.heap[j]? := fun W o j hj => Below.heap_alloc W o j hj
  refine ⟨((((Below.refl _ w).alloc (Nat.le_refl _) _).alloc (by simp) _).alloc (by simp; omega) _).drew, ?_, ?_, ?_⟩
  · show (((w.alloc o1).alloc o2).alloc o3).heap[n]? = _
    rw [a _ _ _ (by simp; omega), a _ _ _ (by simp; omega)]; exact heap_at h
  · show (((w.alloc o1).alloc o2).alloc o3).heap[n + 1]? = _
    rw [a _ _ _ (by simp; omega)]; exact heap_at (by simp; omega)
  · show (((w.alloc o1).alloc o2).alloc o3).heap[n + 1 + 1]? = _
    exact heap_at (by simp; omega)
theorem free_blk {w : World} {b : Nat} {c : Array Value} {t : TypeId} (h : w.heap[b]? = some (.cells c t (0, 0))) (k : Nat) : w.frozen? ⟨b, k, none⟩ = false := by
  unfold World.frozen?; rw [h]; simp
theorem gr_len {F : Fv} (h : F.Ok) (i : Int) : (gr F i).length ≤ 1000000 := by
  unfold gr
  cases e : exc F.os i with
  | some l =>
    obtain ⟨n, hn, h1, h2⟩ := exc_some e
    rw [← h2]; exact h.lenO _ (List.getElem_mem hn)
  | none =>
    show (cg F.cs F.P F.N i).length ≤ 1000000
    unfold cg
    split
    · rw [moved_length]
      unfold cset
      rw [List.getD_eq_getElem?_getD]
      cases e2 : F.cs[(i.fmod F.N).toNat]? with
      | none => simp
      | some l => exact h.lenC _ (List.mem_of_getElem? e2)
    · simp
/-- A row of one's own stays, whatever is put where no cells are. -/
theorem own_kept {W W' : World} {B t s n : Nat} {v : Value} {vs : List Value} {row : Option Nat} (h : W.ownsRow B t s v n vs) (hg : W.grownBy W' row) (hr : ∀ r, row = some r → ∃ o : Obj, W.heap[r]? = some o ∧ o.isCells = false) : W'.ownsRow B t s v n vs := by
  refine ⟨h.1, ?_⟩
  rcases h.2 with q | ⟨g, cap, cur, hv, h2, h3, h4, h5, h6, h7⟩
  · exact .inl q
  · exact .inr ⟨g, cap, cur, hv, h2, (hg.block g (Array.getElem?_eq_some_iff.1 h3).1 (fun e => by
      obtain ⟨o, ho, hc⟩ := hr g e.symm
      rw [h3] at ho; cases ho; cases hc)).trans h3, h4, h5, h6, h7⟩
theorem spAt_kept {W W' : World} {ao : Option Addr} {n c : Nat} {l : List Sp} {row : Option Nat} (h : SpAt W ao n c l) (hg : W.grownBy W' row) (hr : ∀ r, row = some r → ∃ o : Obj, W.heap[r]? = some o ∧ o.isCells = false) : SpAt W' ao n c l := by
  refine ⟨h.len, h.le, h.top, h.bare, fun hn => ?_⟩
  obtain ⟨b, p, e, hc⟩ := h.here hn
  exact ⟨b, p, e, fun i hi => ⟨cell_kept (hc i hi).1 hg hr, cell_kept (hc i hi).2 hg hr⟩⟩
/-- The boxes within the loop. -/
structure OvW (F : Fv) (lo : Option Addr) (ln lc : Nat) (A Z first : Int) (w : World) (b b1 b2 b3 b6 b8 b9 b10 b11 g B : Nat) (v : Value) (sn : Int) (W : World) : Prop where
  ob : OvB F lo ln lc w W b b1 b2 b3
  sz : B ≤ W.heap.size
  h6 : W.heap[b6]? = some (.cells #[.int .i64 A, .int .i64 Z] 38 (0, 0))
  h8 : W.heap[b8]? = some (.cells #[.int .i64 first] 3 (0, 0))
  h9 : W.heap[b9]? = some (.cells #[v] 41 (0, 0))
  h10 : W.heap[b10]? = some (.cells #[.int .i64 sn] 3 (0, 0))
  h11 : W.heap[b11]? = some (.cells #[.slice (some ⟨g, 0, none⟩) 1 1] 27 (0, 0))
  hg : W.heap[g]? = some (.cells #[.int .i64 A, .int .i64 Z] 38 (0, 0))
/-- Which boxes are which. -/
structure OvO (b b1 b2 b3 b6 b8 b9 b10 b11 g B : Nat) : Prop where
  q1 : b1 = b + 1
  q2 : b2 = b + 2
  q3 : b3 = b + 3
  o6 : b3 < b6
  o8 : b6 < b8
  o9 : b8 < b9
  o10 : b9 < b10
  o11 : b9 < b11
  og : b9 < g
  n1 : ¬ b10 = b11
  n2 : ¬ g = b10
  t10 : b10 < B
  t11 : b11 < B
  tg : g < B
theorem OvW.grown {F : Fv} {lo : Option Addr} {ln lc : Nat} {A Z first : Int} {w : World} {b b1 b2 b3 b6 b8 b9 b10 b11 g B : Nat} {v : Value} {sn : Int} {W W' : World} {row : Option Nat} (h : OvW F lo ln lc A Z first w b b1 b2 b3 b6 b8 b9 b10 b11 g B v sn W) (o : OvO b b1 b2 b3 b6 b8 b9 b10 b11 g B) (hg : W.grownBy W' row) (hr : ∀ r, row = some r → B ≤ r) : OvW F lo ln lc A Z first w b b1 b2 b3 b6 b8 b9 b10 b11 g B v sn W' := by
  obtain ⟨q1, q2, q3, o6, o8, o9, o10, o11, og, n1, n2, t10, t11, tg⟩ := o
  have q : ∀ {j : Nat} {x : Obj}, j < B → W.heap[j]? = some x → W'.heap[j]? = some x := fun hB hj => (hg.block _ (Array.getElem?_eq_some_iff.1 hj).1 (fun e => by have := hr _ e.symm; omega)).trans hj
  have k := h.ob
  have hb : w.heap.size ≤ B := by have := k.q0; omega
  refine ⟨⟨k.bw.grown hg k.bw.size (fun r e => Nat.le_trans hb (hr r e)), k.q0, k.q1, k.q2, k.q3, q (by omega) k.f, q (by omega) k.l_, q (by omega) k.r, q (by omega) k.e⟩, Nat.le_trans h.sz hg.size, q (by omega) h.h6, q (by omega) h.h8, q (by omega) h.h9, q (by omega) h.h10, q (by omega) h.h11, q (by omega) h.hg⟩
theorem OvW.keep {F : Fv} {lo : Option Addr} {ln lc : Nat} {A Z first : Int} {w : World} {b b1 b2 b3 b6 b8 b9 b10 b11 g B : Nat} {v : Value} {sn : Int} {W W' : World} (h : OvW F lo ln lc A Z first w b b1 b2 b3 b6 b8 b9 b10 b11 g B v sn W) (o : OvO b b1 b2 b3 b6 b8 b9 b10 b11 g B) (k : Below W.heap.size W W') : OvW F lo ln lc A Z first w b b1 b2 b3 b6 b8 b9 b10 b11 g B v sn W' := h.grown o (grown_of_below k) (fun r e => by cases e)
/-- seen, stored. -/
theorem OvW.seen {F : Fv} {lo : Option Addr} {ln lc : Nat} {A Z first : Int} {w : World} {b b1 b2 b3 b6 b8 b9 b10 b11 g B : Nat} {v : Value} {sn : Int} {W : World} (h : OvW F lo ln lc A Z first w b b1 b2 b3 b6 b8 b9 b10 b11 g B v sn W) (o : OvO b b1 b2 b3 b6 b8 b9 b10 b11 g B) (z : Int) : OvW F lo ln lc A Z first w b b1 b2 b3 b6 b8 b9 b10 b11 g B v z (W.setCell ⟨b10, 0, none⟩ (.int .i64 z)) := by
  obtain ⟨q1, q2, q3, o6, o8, o9, o10, o11, og, n1, n2, t10, t11, tg⟩ := o
  have q : ∀ {j : Nat} {x : Obj}, ¬ j = b10 → W.heap[j]? = some x → (W.setCell ⟨b10, 0, none⟩ (.int .i64 z)).heap[j]? = some x := fun hB hj => (Below.heap_setCell W ⟨b10, 0, none⟩ _ _ hB).trans hj
  have k := h.ob
  have e := k.q0
  refine ⟨⟨k.bw.setCell (p := ⟨b10, 0, none⟩) (by show _ ≤ b10; omega) _, k.q0, k.q1, k.q2, k.q3, q (by omega) k.f, q (by omega) k.l_, q (by omega) k.r, q (by omega) k.e⟩, by simpa using h.sz, q (by omega) h.h6, q (by omega) h.h8, q (by omega) h.h9, by rw [set_block h.h10]; rfl, q (by omega) h.h11, q n2 h.hg⟩
/-- indices, stored. -/
theorem OvW.list {F : Fv} {lo : Option Addr} {ln lc : Nat} {A Z first : Int} {w : World} {b b1 b2 b3 b6 b8 b9 b10 b11 g B : Nat} {v : Value} {sn : Int} {W : World} (h : OvW F lo ln lc A Z first w b b1 b2 b3 b6 b8 b9 b10 b11 g B v sn W) (o : OvO b b1 b2 b3 b6 b8 b9 b10 b11 g B) (u : Value) : OvW F lo ln lc A Z first w b b1 b2 b3 b6 b8 b9 b10 b11 g B u sn (W.setCell ⟨b9, 0, none⟩ u) := by
  obtain ⟨q1, q2, q3, o6, o8, o9, o10, o11, og, n1, n2, t10, t11, tg⟩ := o
  have q : ∀ {j : Nat} {x : Obj}, ¬ j = b9 → W.heap[j]? = some x → (W.setCell ⟨b9, 0, none⟩ u).heap[j]? = some x := fun hB hj => (Below.heap_setCell W ⟨b9, 0, none⟩ _ _ hB).trans hj
  have k := h.ob
  have e := k.q0
  refine ⟨⟨k.bw.setCell (p := ⟨b9, 0, none⟩) (by show _ ≤ b9; omega) _, k.q0, k.q1, k.q2, k.q3, q (by omega) k.f, q (by omega) k.l_, q (by omega) k.r, q (by omega) k.e⟩, by simpa using h.sz, q (by omega) h.h6, q (by omega) h.h8, by rw [set_block h.h9]; rfl, q (by omega) h.h10, q (by omega) h.h11, q (by omega) h.hg⟩
/-- The invariant of the loop. -/
def OvI (F : Fv) (l : List Sp) (lo : Option Addr) (ln lc : Nat) (A Z first : Int) (w : World) (b b1 b2 b3 b6 b8 b9 b10 b11 g B : Nat) (pre : List Int) (W : World) : Prop :=
  ∃ xs ys v, Ov F l pre xs ys ∧ ys.length ≤ 60000 ∧ Vis F first pre ∧ OvW F lo ln lc A Z first w b b1 b2 b3 b6 b8 b9 b10 b11 g B v (ys.length : Int) W ∧ W.ownsRow B 3 1 v xs.length (ints xs)
/-- How the loop is left: the list is whole; or there are too many. -/
def OvX (F : Fv) (l : List Sp) (lo : Option Addr) (ln lc : Nat) (A Z first : Int) (w : World) (b b1 b2 b3 b6 b8 b9 b10 b11 g B k : Nat) (c : Code) (W : World) : Prop :=
  (c = .exit k ∧ ∃ xs sn v, OverIs F l xs 0 ∧ OvW F lo ln lc A Z first w b b1 b2 b3 b6 b8 b9 b10 b11 g B v sn W ∧ W.ownsRow B 3 1 v xs.length (ints xs)) ∨
  (c = .ret ∧ OverIs F l [] 3 ∧ W.cell? ⟨b2, 0, none⟩ = some (.slice none 0 0) ∧ W.cell? ⟨b3, 0, none⟩ = some (.int .i64 3) ∧ Below w.heap.size w W)
theorem ovI_own {F : Fv} {l : List Sp} {lo : Option Addr} {ln lc : Nat} {A Z first : Int} {w : World} {b b1 b2 b3 b6 b8 b9 b10 b11 g B : Nat} (o : OvO b b1 b2 b3 b6 b8 b9 b10 b11 g B) : OwnFrom B (OvI F l lo ln lc A Z first w b b1 b2 b3 b6 b8 b9 b10 b11 g B) := fun s X Y row h hg hr => by
  obtain ⟨xs, ys, v, h1, h2, h3, h4, h5⟩ := h
  exact ⟨xs, ys, v, h1, h2, h3, h4.grown o hg (fun r e => (hr r e).1), own_kept h5 hg (fun r e => (hr r e).2)⟩
theorem ovX_own {F : Fv} {l : List Sp} {lo : Option Addr} {ln lc : Nat} {A Z first : Int} {w : World} {b b1 b2 b3 b6 b8 b9 b10 b11 g B k : Nat} (o : OvO b b1 b2 b3 b6 b8 b9 b10 b11 g B) (hB : w.heap.size ≤ B) (c : Code) : OwnFrom B (fun (_ : List Int) W => OvX F l lo ln lc A Z first w b b1 b2 b3 b6 b8 b9 b10 b11 g B k c W) := fun s X Y row h hg hr => by
  rcases h with ⟨hc, xs, sn, v, h1, h4, h5⟩ | ⟨hc, h1, h2, h3, h4⟩
  · exact .inl ⟨hc, xs, sn, v, h1, h4.grown o hg (fun r e => (hr r e).1), own_kept h5 hg (fun r e => (hr r e).2)⟩
  · exact .inr ⟨hc, h1, cell_kept h2 hg (fun r e => (hr r e).2), cell_kept h3 hg (fun r e => (hr r e).2), h4.grown hg h4.size (fun r e => Nat.le_trans hB (hr r e).1)⟩
def OvAx (F : Fv) (first : Int) (act : Int → Option Addr → Nat → Nat → Act) (s : List Int) (x : Ow) (a' : Act) (W : World) : Prop := a' = act x.i x.ao x.n x.c ∧ SpAt W x.ao x.n x.c (gr F x.i) ∧ Vis F first (s ++ [x.i])
theorem ovAx_own {F : Fv} {first : Int} {act : Int → Option Addr → Nat → Nat → Act} {B : Nat} (s : List Int) (x : Ow) (a' : Act) : OwnFrom B (fun (_ : Unit) W => OvAx F first act s x a' W) := fun _ X Y row h hg hr => ⟨h.1, spAt_kept h.2.1 hg (fun r e => (hr r e).2), h.2.2⟩
theorem onwards_seq (F : Fv) (rt : F.Rt) (ok : F.Ok) (hl : F.cs.length = F.cn) (first : Int) (hf : Ex F first) (x y n₀ : Nat) (w1 : World) (hn : n₀ ≤ w1.heap.size) (hF : ∀ W, Below n₀ w1 W → F.At W) (hx : w1.heap[x]? = some (.cells #[.int .i64 first] 3 (0, 0))) (hy : w1.heap[y]? = some (.cells F.box 25 (0, 0))) :
    SeqRel Fence.wide 2 Tryz.prog 67 #[.pointer (some ⟨x, 0, none⟩), .pointer (some ⟨y, 0, none⟩)] owv (Ky n₀ x y) (OwR F first) (fun s x => s ++ [x.i]) (OwS F first) [] w1 := fun l J Jx W hW hJ hJx hY h0 => by
  have lx := (Array.getElem?_eq_some_iff.1 hx).1
  have ly := (Array.getElem?_eq_some_iff.1 hy).1
  have ex := (hW.block x lx).trans hx
  have ey := (hW.block y ly).trans hy
  exact onwards_in F rt ok hl first hf 2 (by omega) l x y n₀ J Jx W (fun pre z V a b => hY pre z V a b) hJ (Nat.le_trans hn hW.size) (Nat.lt_of_lt_of_le lx hW.size) (Nat.lt_of_lt_of_le ly hW.size) (fun W' k => ⟨hF W' ((hW.mono hn).trans k.below), cell_block (k.x_.trans ex) 0, k.y_.trans ey⟩) h0
theorem ky_put {n₀ x y : Nat} {w : World} (h : n₀ ≤ w.heap.size) (hx : x < w.heap.size) (hy : y < w.heap.size) (W : World) (l : Nat) (o o' : Obj) (hl : w.heap.size ≤ l) (h0 : W.heap[l]? = some o) (h1 : o.isCells = false) (h2 : o.isWalk = false) : Ky n₀ x y W (W.putObj l o') :=
  ⟨belowK_b (w := w) h W l o o' hl h0 h1 h2, World.putObj_heap_other (by omega), World.putObj_heap_other (by omega)⟩
theorem sp_one {W : World} {g : Nat} {x y : Int} (h : W.heap[g]? = some (.cells #[.int .i64 x, .int .i64 y] 38 (0, 0))) : SpAt W (some ⟨g, 0, none⟩) 1 1 [(x, y)] := ⟨rfl, Nat.le_refl _, (show 1 ≤ 9223372036854775807 by decide), (fun e => by cases e), fun _ => ⟨g, 0, rfl, fun i hi => by
  obtain rfl : i = 0 := by simpa using hi
  exact ⟨cell_block h 0, cell_block h 1⟩⟩⟩
theorem keeps_app {W w1 : World} {B t s n : Nat} {v : Value} {vs : List Value} {tmp : Obj} (h : W.ownsRow B t s v n vs) (hg : (W.alloc tmp).grownBy w1 v.ownBlock) : KeepsFrom B W w1 := by
  refine ⟨by have := hg.size; simp at this; omega, fun k o hk h0 hc => ?_⟩
  have lt := (Array.getElem?_eq_some_iff.1 h0).1
  have e : (W.alloc tmp).heap[k]? = some o := (Below.heap_alloc W tmp k lt).trans h0
  refine (hg.block k (by simp; omega) (fun z => ?_)).trans e
  rcases h.2 with ⟨q, _⟩ | ⟨g, cap, cur, hv, h2, h3, _⟩
  · rw [q] at z; simp [Value.ownBlock] at z
  · rw [hv] at z
    have : k = g := by simpa [Value.ownBlock] using z
    subst this
    rw [h0] at h3; cases h3; cases hc
theorem ints_snoc (xs : List Int) (x : Int) : ints xs ++ [.int .i64 x] = ints (xs ++ [x]) := by simp [ints]
theorem ky_set {n₀ x y : Nat} {A W : World} (h : Ky n₀ x y A W) {q : Nat} (hq : n₀ ≤ q) (hx : q ≠ x) (hy : q ≠ y) (v : Value) : Ky n₀ x y A (W.setCell ⟨q, 0, none⟩ v) :=
  ⟨h.below.setCell (p := ⟨q, 0, none⟩) hq v, (Below.heap_setCell W ⟨q, 0, none⟩ v x (Ne.symm hx)).trans h.x_, (Below.heap_setCell W ⟨q, 0, none⟩ v y (Ne.symm hy)).trans h.y_⟩
theorem ky_app {n₀ x y B : Nat} {A W w1 : World} {t s n : Nat} {v : Value} {vs : List Value} {tmp : Obj} (h : Ky n₀ x y A W) (o : W.ownsRow B t s v n vs) (hn : n₀ ≤ B) (hx : x < B) (hy : y < B) (hB : B ≤ W.heap.size) (hg : (W.alloc tmp).grownBy w1 v.ownBlock) : Ky n₀ x y A w1 := by
  have far : ∀ q, v.ownBlock = some q → B ≤ q := fun q e => (o.lt q e).1
  have k : Below W.heap.size W (W.alloc tmp) := (Below.refl _ W).alloc (Nat.le_refl _) _
  refine ⟨(h.below.trans (k.mono (Nat.le_trans hn hB))).grown hg (by simp; omega) (fun q e => Nat.le_trans hn (far q e)), ?_, ?_⟩
  · exact ((hg.block x (by simp; omega) (fun e => by have := far x e.symm; omega)).trans (k.block x (by omega))).trans h.x_
  · exact ((hg.block y (by simp; omega) (fun e => by have := far y e.symm; omega)).trans (k.block y (by omega))).trans h.y_
theorem spAt_box {W : World} {zo : Option Addr} {zn zc b : Nat} {L : List Sp} {x v : Value} {t : TypeId} (h : SpAt W zo zn zc L) (hb : W.heap[b]? = some (.cells #[x] t (0, 0))) : SpAt (W.setCell ⟨b, 0, none⟩ v) zo zn zc L := by
  refine ⟨h.len, h.le, h.top, h.bare, fun hn => ?_⟩
  obtain ⟨q, p, e, hc⟩ := h.here hn
  have ne : ∀ i (hi : i < L.length), q ≠ b := fun i hi z => by
    have := (hc i hi).2
    subst z
    rw [cell_block hb] at this
    simp at this
  have k : ∀ {j : Nat} {u : Value}, q ≠ b → W.cell? ⟨q, j, none⟩ = some u → (W.setCell ⟨b, 0, none⟩ v).cell? ⟨q, j, none⟩ = some u := fun hq hu => by
    rw [← hu]; exact World.cell?_of_block (w := W) (Below.heap_setCell W ⟨b, 0, none⟩ v q hq)
  exact ⟨q, p, e, fun i hi => ⟨k (ne i hi) (hc i hi).1, k (ne i hi) (hc i hi).2⟩⟩
set_option maxRecDepth 100000 in
set_option maxHeartbeats 4000000 in
theorem over_any (F : Fv) (lo : Option Addr) (ln lc : Nat) (l : List Sp) (w : World) (hF : F.At w) (rt : F.Rt) (ok : F.Ok) (hc : F.cn ≤ 10000) (hL : SpAt w lo ln lc l) (hln : ln ≤ 1000000) : Calls Tryz.prog 16 #[F.v, .slice lo ln lc] w fun e w' => OverOut F l w.heap.size e w' ∧ Hid (Below w.heap.size w w') := by
  have HRT := Lib.hid rt
  have HOK := Lib.hid ok
  clear rt ok
  obtain ⟨P, N, co, cn, cc, oo, on, oc, cs, os⟩ := F
  have LC : Hid (cs.length = cn) := Lib.hid hF.core.len
  have LO : Hid (os.length = on) := Lib.hid hF.odd.len
  have hmc : cn ≤ 9223372036854775807 := Nat.le_trans hF.core.le hF.core.top
  have hmo : on ≤ 9223372036854775807 := Nat.le_trans hF.odd.le hF.odd.top
  have hc10 : cn ≤ 10000 := hc
  have HRT : Hid (Fv.Rt ⟨P, N, co, cn, cc, oo, on, oc, cs, os⟩) := HRT
  have HOK : Hid (Fv.Ok ⟨P, N, co, cn, cc, oo, on, oc, cs, os⟩) := HOK
  have HLN : Hid ((Fv.cs ⟨P, N, co, cn, cc, oo, on, oc, cs, os⟩).length = Fv.cn ⟨P, N, co, cn, cc, oo, on, oc, cs, os⟩) := Lib.hid LC.out
  have HLL := Lib.hid hL
  have hlx : ln ≤ 9223372036854775807 := Nat.le_trans hL.le hL.top
  have HLE := Lib.hid hL.len
  have HF := Lib.hid hF
  obtain ⟨b, hb⟩ : ∃ b, w.heap.size = b := ⟨_, rfl⟩
  obtain ⟨b1, hb1⟩ : ∃ b1, b + 1 = b1 := ⟨_, rfl⟩
  obtain ⟨b2, hb2⟩ : ∃ b2, b1 + 1 = b2 := ⟨_, rfl⟩
  obtain ⟨b3, hb3⟩ : ∃ b3, b2 + 1 = b3 := ⟨_, rfl⟩
  obtain ⟨w0, hw0⟩ : ∃ w0, (((w.alloc (.cells #[.int .i64 P, .int .i64 N, .slice co cn cc, .slice oo on oc] 25)).alloc (.cells #[.slice lo ln lc] 27)).alloc (.cells #[.slice none 0 0] 41)).alloc (.cells #[.int .i64 0] 34) = w0 := ⟨_, rfl⟩
  have HB : Hid (OvB ⟨P, N, co, cn, cc, oo, on, oc, cs, os⟩ lo ln lc w w0 b b1 b2 b3) := Lib.hid (by
    have q := ovB_new ⟨P, N, co, cn, cc, oo, on, oc, cs, os⟩ lo ln lc w
    subst hb3; subst hb2; subst hb1; subst hb
    rw [← hw0]; exact q)
  obtain ⟨rg, hrg⟩ : ∃ r : Bool, r = true ↔ Good l := by classical exact ⟨decide _, decide_eq_true_iff⟩
  have HRG := Lib.hid hrg
  have CR := Lib.hid (fun W (h : SpAt W lo ln lc l) => right_any lo ln lc l W h rg hrg)
  have CH := Lib.hid (fun W (h : SpAt W lo ln lc l) => hull_v lo ln lc l W h)
  clear hF hL hrg
  show Calls Tryz.prog 16 #[.agg #[.int .i64 P, .int .i64 N, .slice co cn cc, .slice oo on oc], .slice lo ln lc] w _
  refine (callsIn_wide (n := 3)).1 ?_
  refine callsIn_of_wp_marks Tryz.func16 rfl trivial ?_ rfl
  simp only [Tryz.ntmps16, List.size_toArray, List.length_cons, List.length_nil, Nat.reduceAdd, Nat.reduceSub, Array.replicate_succ, Array.replicate_zero, List.push_toArray, List.append_toArray, List.nil_append, List.cons_append]
  refine wpIn_wide.2 ?_
  go_upto_region 1 with fail
  clear hw0
  have n23 : ¬ b2 = b3 := by omega
  have n32 : ¬ b3 = b2 := by omega
  clear hb hb1 hb2 hb3
  have e0 : w0.cell? ⟨b, 0, none⟩ = some (.int .i64 P) := cell_block HB.out.f 0
  have e1 : w0.cell? ⟨b, 1, none⟩ = some (.int .i64 N) := cell_block HB.out.f 1
  have e2 : w0.cell? ⟨b, 2, none⟩ = some (.slice co cn cc) := cell_block HB.out.f 2
  have e3 : w0.cell? ⟨b, 3, none⟩ = some (.slice oo on oc) := cell_block HB.out.f 3
  have g1 : w0.cell? ⟨b1, 0, none⟩ = some (.slice lo ln lc) := cell_block HB.out.l_ 0
  have g2 : w0.cell? ⟨b2, 0, none⟩ = some (.slice none 0 0) := cell_block HB.out.r 0
  have g3 : w0.cell? ⟨b3, 0, none⟩ = some (.int .i64 0) := cell_block HB.out.e 0
  have k2 : w0.frozen? ⟨b2, 0, none⟩ = false := free_blk HB.out.r 0
  have k3 : w0.frozen? ⟨b3, 0, none⟩ = false := free_blk HB.out.e 0
  go_wp2_with fail
  (with_reducible refine (CR.out _ (HLL.out.keep HB.out.bw)).mono ?_)
  rintro e w1 ⟨rfl, q⟩
  have HB := Lib.hid (HB.out.keep q)
  clear e0 e1 e2 e3 g1 g2 g3 k2 k3 q CR
  have e0 : w1.cell? ⟨b, 0, none⟩ = some (.int .i64 P) := cell_block HB.out.f 0
  have e1 : w1.cell? ⟨b, 1, none⟩ = some (.int .i64 N) := cell_block HB.out.f 1
  have e2 : w1.cell? ⟨b, 2, none⟩ = some (.slice co cn cc) := cell_block HB.out.f 2
  have e3 : w1.cell? ⟨b, 3, none⟩ = some (.slice oo on oc) := cell_block HB.out.f 3
  have g1 : w1.cell? ⟨b1, 0, none⟩ = some (.slice lo ln lc) := cell_block HB.out.l_ 0
  have g2 : w1.cell? ⟨b2, 0, none⟩ = some (.slice none 0 0) := cell_block HB.out.r 0
  have g3 : w1.cell? ⟨b3, 0, none⟩ = some (.int .i64 0) := cell_block HB.out.e 0
  have k2 : w1.frozen? ⟨b2, 0, none⟩ = false := free_blk HB.out.r 0
  have k3 : w1.frozen? ⟨b3, 0, none⟩ = false := free_blk HB.out.e 0
  cases rg
  · have HZ : Hid (OverIs ⟨P, N, co, cn, cc, oo, on, oc, cs, os⟩ l [] 50) := Lib.hid (.inl ⟨rfl, rfl, fun z => by have := HRG.out.2 z; cases this⟩)
    have HX := Lib.hid (HB.out.out (.slice none 0 0) 50)
    go_wp2
    have r0 := HX.out.1
    have r1 := HX.out.2.1
    exact ⟨.tuple #[.slice none 0 0, .int .i64 50], by simp [results, Tryz.results16, go_sem, r0, r1], ⟨⟨.slice none 0 0, [], 50, rfl, HZ.out, World.ownsRow_nil _ _ _ _⟩, Lib.hid HX.out.2.2⟩⟩
  · have HGL := Lib.hid (HRG.out.1 (by first | rfl | trivial))
    go_wp2_with fail
    (with_reducible refine (CH.out _ (HLL.out.keep HB.out.bw)).mono ?_)
    rintro e w2 ⟨A, Z, okh, rfl, HH, q⟩
    have HB := Lib.hid (HB.out.keep q)
    clear e0 e1 e2 e3 g1 g2 g3 k2 k3 q CH
    obtain ⟨b6, hb6⟩ : ∃ b6, w2.heap.size = b6 := ⟨_, rfl⟩
    obtain ⟨w3, hw3⟩ : ∃ w3, w2.alloc (.cells #[.int .i64 A, .int .i64 Z] 38) = w3 := ⟨_, rfl⟩
    have K3 : Below w2.heap.size w2 w3 := by rw [← hw3]; exact (Below.refl _ w2).alloc (Nat.le_refl _) _
    have H6 : Hid (w3.heap[b6]? = some (.cells #[.int .i64 A, .int .i64 Z] 38 (0, 0))) := Lib.hid (by rw [← hw3, ← hb6]; exact heap_at rfl)
    have HB3 := Lib.hid (HB.out.keep K3)
    have HS6 : Hid (b3 < b6) := Lib.hid (by rw [← hb6]; exact (Array.getElem?_eq_some_iff.1 HB.out.e).1)
    go_upto_region 4 with fail
    clear hb6 hw3 K3 HB
    have HB := HB3
    clear HB3
    by_cases hl0 : ln = 0
    · have hokh : okh = false := by have := HH.out.2.2; rw [this]; simp; exact hl0
      subst hokh
      have HZ : Hid (OverIs ⟨P, N, co, cn, cc, oo, on, oc, cs, os⟩ l [] 0) := Lib.hid (by
        have : l = [] := List.eq_nil_of_length_eq_zero (by rw [HLE.out]; exact hl0)
        rw [this]; exact over_nil _)
      have HX := Lib.hid (HB.out.out (.slice none 0 0) 0)
      clear hl0
      have e0 : w3.cell? ⟨b, 0, none⟩ = some (.int .i64 P) := cell_block HB.out.f 0
      have e1 : w3.cell? ⟨b, 1, none⟩ = some (.int .i64 N) := cell_block HB.out.f 1
      have e2 : w3.cell? ⟨b, 2, none⟩ = some (.slice co cn cc) := cell_block HB.out.f 2
      have e3 : w3.cell? ⟨b, 3, none⟩ = some (.slice oo on oc) := cell_block HB.out.f 3
      have g1 : w3.cell? ⟨b1, 0, none⟩ = some (.slice lo ln lc) := cell_block HB.out.l_ 0
      have g2 : w3.cell? ⟨b2, 0, none⟩ = some (.slice none 0 0) := cell_block HB.out.r 0
      have g3 : w3.cell? ⟨b3, 0, none⟩ = some (.int .i64 0) := cell_block HB.out.e 0
      have k2 : w3.frozen? ⟨b2, 0, none⟩ = false := free_blk HB.out.r 0
      have k3 : w3.frozen? ⟨b3, 0, none⟩ = false := free_blk HB.out.e 0
      go_wp2
      have r0 := HX.out.1
      have r1 := HX.out.2.1
      exact ⟨.tuple #[.slice none 0 0, .int .i64 0], by simp [results, Tryz.results16, go_sem, r0, r1], ⟨⟨.slice none 0 0, [], 0, rfl, HZ.out, World.ownsRow_nil _ _ _ _⟩, Lib.hid HX.out.2.2⟩⟩
    · have hokh : okh = true := by have := HH.out.2.2; rw [this]; simp; omega
      subst hokh
      have HNE : Hid (l ≠ []) := Lib.hid (fun z => by have := HLE.out; rw [z] at this; simp at this; omega)
      have hAb : (-1099511627776 ≤ A ∧ A ≤ 1099511627776) ∧ -1099511627776 ≤ Z ∧ Z ≤ 1099511627776 := by
        have q := hull_rng (fit_good HGL.out) HNE.out
        rw [← HH.out.1, ← HH.out.2.1] at q; exact q
      obtain ⟨⟨A1, A2⟩, Z1, Z2⟩ := hAb
      have HAZ : Hid (A ≤ Z) := Lib.hid (by have := hull_le HGL.out HNE.out; rw [← HH.out.1, ← HH.out.2.1] at this; exact this)
      have CF : Hid (∀ W, Fv.At ⟨P, N, co, cn, cc, oo, on, oc, cs, os⟩ W → Calls Tryz.prog 10 #[.agg #[.int .i64 P, .int .i64 N, .slice co cn cc, .slice oo on oc], .int .i64 A] W fun e w' => IbOut (FromIs ⟨P, N, co, cn, cc, oo, on, oc, cs, os⟩ A) e ∧ Hid (Below W.heap.size W w')) := Lib.hid (fun W h => from_any ⟨P, N, co, cn, cc, oo, on, oc, cs, os⟩ A W h HRT.out HOK.out hc10 (by omega) (by omega))
      have HFA : Hid (∀ W, OvB ⟨P, N, co, cn, cc, oo, on, oc, cs, os⟩ lo ln lc w W b b1 b2 b3 → Fv.At ⟨P, N, co, cn, cc, oo, on, oc, cs, os⟩ W) := Lib.hid (fun W h => HF.out.keep h.bw)
      clear hl0
      have e0 : w3.cell? ⟨b, 0, none⟩ = some (.int .i64 P) := cell_block HB.out.f 0
      have e1 : w3.cell? ⟨b, 1, none⟩ = some (.int .i64 N) := cell_block HB.out.f 1
      have e2 : w3.cell? ⟨b, 2, none⟩ = some (.slice co cn cc) := cell_block HB.out.f 2
      have e3 : w3.cell? ⟨b, 3, none⟩ = some (.slice oo on oc) := cell_block HB.out.f 3
      have g1 : w3.cell? ⟨b1, 0, none⟩ = some (.slice lo ln lc) := cell_block HB.out.l_ 0
      have g2 : w3.cell? ⟨b2, 0, none⟩ = some (.slice none 0 0) := cell_block HB.out.r 0
      have g3 : w3.cell? ⟨b3, 0, none⟩ = some (.int .i64 0) := cell_block HB.out.e 0
      have k2 : w3.frozen? ⟨b2, 0, none⟩ = false := free_blk HB.out.r 0
      have k3 : w3.frozen? ⟨b3, 0, none⟩ = false := free_blk HB.out.e 0
      have f0 : w3.cell? ⟨b6, 0, none⟩ = some (.int .i64 A) := cell_block H6.out 0
      have f1 : w3.cell? ⟨b6, 1, none⟩ = some (.int .i64 Z) := cell_block H6.out 1
      go_wp2_with fail
      (with_reducible refine (CF.out _ (HFA.out _ HB.out)).mono ?_)
      rintro e w4 ⟨⟨first, okf, rfl, hff⟩, q⟩
      have HFF := Lib.hid hff
      have HB := Lib.hid (HB.out.keep q.out)
      have H6 := Lib.hid ((q.out.block _ (Array.getElem?_eq_some_iff.1 H6.out).1).trans H6.out)
      clear e0 e1 e2 e3 g1 g2 g3 k2 k3 f0 f1 q CF hff
      obtain ⟨b8, hb8⟩ : ∃ b8, w4.heap.size = b8 := ⟨_, rfl⟩
      obtain ⟨w5, hw5⟩ : ∃ w5, w4.alloc (.cells #[.int .i64 first] 3) = w5 := ⟨_, rfl⟩
      have K5 : Below w4.heap.size w4 w5 := by rw [← hw5]; exact (Below.refl _ w4).alloc (Nat.le_refl _) _
      have H8 : Hid (w5.heap[b8]? = some (.cells #[.int .i64 first] 3 (0, 0))) := Lib.hid (by rw [← hw5, ← hb8]; exact heap_at rfl)
      have HB5 := Lib.hid (HB.out.keep K5)
      have H65 := Lib.hid ((K5.block _ (Array.getElem?_eq_some_iff.1 H6.out).1).trans H6.out)
      have HS8 : Hid (b6 < b8) := Lib.hid (by rw [← hb8]; exact (Array.getElem?_eq_some_iff.1 H6.out).1)
      go_upto_region 7 with fail
      clear hb8 hw5 K5 HB H6
      have HB := HB5
      have H6 := H65
      clear HB5 H65
      cases okf
      · have HZ : Hid (OverIs ⟨P, N, co, cn, cc, oo, on, oc, cs, os⟩ l [] 0) := Lib.hid (over_none HOK.out HGL.out (by rw [← HH.out.1]; exact HFF.out))
        have HX := Lib.hid (HB.out.out (.slice none 0 0) 0)
        have e0 : w5.cell? ⟨b, 0, none⟩ = some (.int .i64 P) := cell_block HB.out.f 0
        have e1 : w5.cell? ⟨b, 1, none⟩ = some (.int .i64 N) := cell_block HB.out.f 1
        have e2 : w5.cell? ⟨b, 2, none⟩ = some (.slice co cn cc) := cell_block HB.out.f 2
        have e3 : w5.cell? ⟨b, 3, none⟩ = some (.slice oo on oc) := cell_block HB.out.f 3
        have g1 : w5.cell? ⟨b1, 0, none⟩ = some (.slice lo ln lc) := cell_block HB.out.l_ 0
        have g2 : w5.cell? ⟨b2, 0, none⟩ = some (.slice none 0 0) := cell_block HB.out.r 0
        have g3 : w5.cell? ⟨b3, 0, none⟩ = some (.int .i64 0) := cell_block HB.out.e 0
        have k2 : w5.frozen? ⟨b2, 0, none⟩ = false := free_blk HB.out.r 0
        have k3 : w5.frozen? ⟨b3, 0, none⟩ = false := free_blk HB.out.e 0
        go_wp2
        have r0 := HX.out.1
        have r1 := HX.out.2.1
        exact ⟨.tuple #[.slice none 0 0, .int .i64 0], by simp [results, Tryz.results16, go_sem, r0, r1], ⟨⟨.slice none 0 0, [], 0, rfl, HZ.out, World.ownsRow_nil _ _ _ _⟩, Lib.hid HX.out.2.2⟩⟩
      · obtain ⟨b9, hb9⟩ : ∃ b9, w5.heap.size = b9 := ⟨_, rfl⟩
        obtain ⟨w6, hw6⟩ : ∃ w6, w5.alloc (.cells #[.slice none 0 0] 41) = w6 := ⟨_, rfl⟩
        have K6 : Below w5.heap.size w5 w6 := by rw [← hw6]; exact (Below.refl _ w5).alloc (Nat.le_refl _) _
        have H9 : Hid (w6.heap[b9]? = some (.cells #[.slice none 0 0] 41 (0, 0))) := Lib.hid (by rw [← hw6, ← hb9]; exact heap_at rfl)
        have HB6 := Lib.hid (HB.out.keep K6)
        have H66 := Lib.hid ((K6.block _ (Array.getElem?_eq_some_iff.1 H6.out).1).trans H6.out)
        have H86 := Lib.hid ((K6.block _ (Array.getElem?_eq_some_iff.1 H8.out).1).trans H8.out)
        have HS9 : Hid (b8 < b9) := Lib.hid (by rw [← hb9]; exact (Array.getElem?_eq_some_iff.1 H8.out).1)
        go_upto_region 10 with fail
        clear hb9 hw6 K6 HB H6 H8
        have HB := HB6
        have H6 := H66
        have H8 := H86
        clear HB6 H66 H86
        have f0 : w6.cell? ⟨b6, 0, none⟩ = some (.int .i64 A) := cell_block H6.out 0
        have f1 : w6.cell? ⟨b6, 1, none⟩ = some (.int .i64 Z) := cell_block H6.out 1
        have HSW : Hid (b9 < w6.heap.size) := Lib.hid (Array.getElem?_eq_some_iff.1 H9.out).1
        go_cut [10, 11] from 33 to 34 (fun s10 s11 wx => ∃ b10 b11, s10 = .pointer (some ⟨b10, 0, none⟩) ∧ s11 = .pointer (some ⟨b11, 0, none⟩) ∧ Hid (OvA A Z w6 wx b10 b11))
        case first =>
          obtain ⟨n6, hn6⟩ : ∃ n6, w6.heap.size = n6 := ⟨_, rfl⟩
          have m1 : b6 < n6 := by have := HS8.out; have := HS9.out; have := HSW.out; omega
          have m2 : ¬ b6 = n6 := by omega
          have m3 : ¬ b6 = n6 + 1 := by omega
          have m4 : ¬ b6 = n6 + 1 + 1 := by omega
          have m5 : ¬ n6 = b6 := by omega
          have m6 : ¬ n6 + 1 = b6 := by omega
          have m7 : ¬ n6 + 1 + 1 = b6 := by omega
          go_region
          all_goals
            go_wp2
            go_meet
            case rel =>
              refine ⟨_, _, rfl, rfl, Lib.hid ?_⟩
              obtain ⟨t0, t1, t2, t3⟩ := three hn6 _ _ _
              first | exact ova_mk t0 t1 t2 t3 (by omega) (by omega) (by omega) (by omega) (by omega) | exact ova_mk t0 t1 t3 t2 (by omega) (by omega) (by omega) (by omega) (by omega) | exact ova_mk t0 t2 t1 t3 (by omega) (by omega) (by omega) (by omega) (by omega) | exact ova_mk t0 t2 t3 t1 (by omega) (by omega) (by omega) (by omega) (by omega) | exact ova_mk t0 t3 t1 t2 (by omega) (by omega) (by omega) (by omega) (by omega) | exact ova_mk t0 t3 t2 t1 (by omega) (by omega) (by omega) (by omega) (by omega)
        case rest =>
          obtain ⟨b10, b11, rfl, rfl, HOA⟩ := hcut
          have HB := Lib.hid (HB.out.keep HOA.out.bw)
          have H6 := Lib.hid ((HOA.out.bw.block _ (Array.getElem?_eq_some_iff.1 H6.out).1).trans H6.out)
          have H8 := Lib.hid ((HOA.out.bw.block _ (Array.getElem?_eq_some_iff.1 H8.out).1).trans H8.out)
          have H9 := Lib.hid ((HOA.out.bw.block _ (Array.getElem?_eq_some_iff.1 H9.out).1).trans H9.out)
          clear f0 f1
          have CO : Hid (∀ W, Fv.At ⟨P, N, co, cn, cc, oo, on, oc, cs, os⟩ W → Calls Tryz.prog 45 #[.agg #[.int .i64 P, .int .i64 N, .slice co cn cc, .slice oo on oc], .int .i64 first] W fun e w' => ∃ x y, e = .returned (.func (.func 67) #[] #[.pointer (some ⟨x, 0, none⟩), .pointer (some ⟨y, 0, none⟩)]) ∧ Hid (W.heap.size ≤ x ∧ W.heap.size ≤ y ∧ w'.heap[x]? = some (.cells #[.int .i64 first] 3 (0, 0)) ∧ w'.heap[y]? = some (.cells #[.int .i64 P, .int .i64 N, .slice co cn cc, .slice oo on oc] 25 (0, 0))) ∧ Hid (Below W.heap.size W w')) := Lib.hid (fun W h => onwards_any ⟨P, N, co, cn, cc, oo, on, oc, cs, os⟩ first W h)
          have e0 : wc.cell? ⟨b, 0, none⟩ = some (.int .i64 P) := cell_block HB.out.f 0
          have e1 : wc.cell? ⟨b, 1, none⟩ = some (.int .i64 N) := cell_block HB.out.f 1
          have e2 : wc.cell? ⟨b, 2, none⟩ = some (.slice co cn cc) := cell_block HB.out.f 2
          have e3 : wc.cell? ⟨b, 3, none⟩ = some (.slice oo on oc) := cell_block HB.out.f 3
          have g1 : wc.cell? ⟨b1, 0, none⟩ = some (.slice lo ln lc) := cell_block HB.out.l_ 0
          have g2 : wc.cell? ⟨b2, 0, none⟩ = some (.slice none 0 0) := cell_block HB.out.r 0
          have g3 : wc.cell? ⟨b3, 0, none⟩ = some (.int .i64 0) := cell_block HB.out.e 0
          have k2 : wc.frozen? ⟨b2, 0, none⟩ = false := free_blk HB.out.r 0
          have k3 : wc.frozen? ⟨b3, 0, none⟩ = false := free_blk HB.out.e 0
          have f8 : wc.cell? ⟨b8, 0, none⟩ = some (.int .i64 first) := cell_block H8.out 0
          go_wp2_with fail
          (with_reducible refine (CO.out _ (HFA.out _ HB.out)).mono ?_)
          rintro e W0 ⟨x, y, rfl, HXY, q⟩
          have HB := Lib.hid (HB.out.keep q.out)
          have kp : ∀ {j : Nat} {o : Obj}, wc.heap[j]? = some o → W0.heap[j]? = some o := fun hj => (q.out.block _ (Array.getElem?_eq_some_iff.1 hj).1).trans hj
          obtain ⟨g, hg1, hg2, hg3, hg4⟩ := HOA.out.a
          have HO : Hid (OvO b b1 b2 b3 b6 b8 b9 b10 b11 g W0.heap.size) := Lib.hid ⟨HB.out.q1, HB.out.q2, HB.out.q3, HS6.out, HS8.out, HS9.out, Nat.lt_of_lt_of_le HSW.out HOA.out.l1, Nat.lt_of_lt_of_le HSW.out HOA.out.l2, Nat.lt_of_lt_of_le HSW.out hg1, HOA.out.ne, hg2, (Array.getElem?_eq_some_iff.1 (kp HOA.out.s)).1, (Array.getElem?_eq_some_iff.1 (kp hg3)).1, (Array.getElem?_eq_some_iff.1 (kp hg4)).1⟩
          have HW0 : Hid (OvW ⟨P, N, co, cn, cc, oo, on, oc, cs, os⟩ lo ln lc A Z first w b b1 b2 b3 b6 b8 b9 b10 b11 g W0.heap.size (.slice none 0 0) 0 W0) := Lib.hid ⟨HB.out, Nat.le_refl _, kp H6.out, kp H8.out, kp H9.out, kp HOA.out.s, kp hg3, kp hg4⟩
          have HFE : Hid (Ex ⟨P, N, co, cn, cc, oo, on, oc, cs, os⟩ first) := Lib.hid (HFF.out.1 rfl).1
          have HX0 := Lib.hid HXY.out.2.2.1
          have HY0 := Lib.hid HXY.out.2.2.2
          have HSX : Hid (x < W0.heap.size ∧ y < W0.heap.size ∧ wc.heap.size ≤ x ∧ wc.heap.size ≤ y ∧ b10 < wc.heap.size ∧ b9 < wc.heap.size) := Lib.hid ⟨(Array.getElem?_eq_some_iff.1 HX0.out).1, (Array.getElem?_eq_some_iff.1 HY0.out).1, HXY.out.1, HXY.out.2.1, (Array.getElem?_eq_some_iff.1 HOA.out.s).1, (Array.getElem?_eq_some_iff.1 H9.out).1⟩
          clear kp hg1 hg2 hg3 hg4 HOA H6 H8 H9 HXY CO q HS6 HS8 HS9 HSW HRG f8
          clear e0 e1 e2 e3 g1 g2 g3 k2 k3
          go_wp2_with fail
          refine (wpIn_wide (n := 3)).1 ?_
          refine range_rel rfl (by omega) (gf := 67) (lb := #[.pointer (some ⟨x, 0, none⟩), .pointer (some ⟨y, 0, none⟩)]) rfl trivial (enters_of Tryz.func67 (by kernel_rfl) rfl)
            (onwards_seq ⟨P, N, co, cn, cc, oo, on, oc, cs, os⟩ HRT.out HOK.out HLN.out first HFE.out x y w.heap.size W0 HB.out.bw.size (fun W k => HF.out.keep (HB.out.bw.trans k)) HX0.out HY0.out) (fun p q => p.trans q) (ky_put HB.out.bw.size HSX.out.1 HSX.out.2.1) (Below.refl _ _) (fun _ => rfl)
            (OvI ⟨P, N, co, cn, cc, oo, on, oc, cs, os⟩ l lo ln lc A Z first w b b1 b2 b3 b6 b8 b9 b10 b11 g W0.heap.size)
            (fun c _ W => OvX ⟨P, N, co, cn, cc, oo, on, oc, cs, os⟩ l lo ln lc A Z first w b b1 b2 b3 b6 b8 b9 b10 b11 g W0.heap.size 0 c W)
            (ovI_own HO.out) (fun c => ovX_own HO.out HB.out.bw.size c)
            ⟨[], [], .slice none 0 0, Ov.zero _ _, Nat.zero_le _, ⟨(fun k h => by cases h), List.Pairwise.nil, fun k _ _ h => by obtain ⟨m, h, _⟩ := h; cases h⟩, HW0.out, World.ownsRow_nil _ _ _ _⟩
            (OvAx ⟨P, N, co, cn, cc, oo, on, oc, cs, os⟩ first (fun zi zo zn zc => { tmps := #[.agg #[.int .i64 P, .int .i64 N, .slice co cn cc, .slice oo on oc], .slice lo ln lc, .pointer (some ⟨b, 0, none⟩), .pointer (some ⟨b1, 0, none⟩), .pointer (some ⟨b2, 0, none⟩), .pointer (some ⟨b3, 0, none⟩), .pointer (some ⟨b6, 0, none⟩), .bool true, .pointer (some ⟨b8, 0, none⟩), .pointer (some ⟨b9, 0, none⟩), .pointer (some ⟨b10, 0, none⟩), .pointer (some ⟨b11, 0, none⟩), .int .i64 zi, .slice zo zn zc, .slice lo ln lc, .bool true, .bool false, .tuple #[.agg #[.int .i64 A, .int .i64 Z], .bool true], .slice lo ln lc, .tuple #[.agg #[.int .i64 A, .int .i64 Z], .bool true], .agg #[.int .i64 A, .int .i64 Z], .bool true, .bool true, .bool false, .tuple #[.int .i64 first, .bool true], .agg #[.int .i64 P, .int .i64 N, .slice co cn cc, .slice oo on oc], .pointer (some ⟨b6, 0, none⟩), .int .i64 A, .tuple #[.int .i64 first, .bool true], .int .i64 first, .bool true, .bool true, .bool false, u33, u34, .agg #[.int .i64 P, .int .i64 N, .slice co cn cc, .slice oo on oc], .int .i64 first, .func (.func 67) #[] #[.pointer (some ⟨x, 0, none⟩), .pointer (some ⟨y, 0, none⟩)], .int .i64 zi, .slice zo zn zc, undef, undef, undef, undef, undef, undef, undef, undef, undef, undef, undef, undef, undef, undef, undef, undef, undef, undef, undef, undef, undef, undef, undef], defers := [] })) (fun s x a' => ovAx_own s x a') ?assign ?body ?done ?stop
          case assign =>
            rintro lp pre z W K hI0 hR0 hK
            have HI0 := Lib.hid hI0
            have HR0 := Lib.hid hR0
            clear hI0 hR0
            obtain ⟨zi, zo, zn, zc⟩ := z
            unfold owv
            gi_wp2
            exact hK _ _ ((KeepsOthers.refl _).from _) (Ky.refl _ _ _ _) HI0.out ⟨rfl, HR0.out.2, HR0.out.1⟩
          case body =>
            rintro lp pre z a' W hlp hr hI hA
            obtain ⟨xs, ys, v, hov, hlen, _, hw, hown⟩ := hI
            obtain ⟨ha, hs, hv⟩ := hA
            subst ha
            obtain ⟨zi, zo, zn, zc⟩ := z
            have HOV := Lib.hid hov
            have HLEN := Lib.hid hlen
            have HWB := Lib.hid hw
            have HOWN := Lib.hid hown
            have HSP : Hid (SpAt W zo zn zc (gr ⟨P, N, co, cn, cc, oo, on, oc, cs, os⟩ zi)) := Lib.hid hs
            have HVI : Hid (Vis ⟨P, N, co, cn, cc, oo, on, oc, cs, os⟩ first (pre ++ [zi])) := Lib.hid hv
            have HEZ : Hid (Ex ⟨P, N, co, cn, cc, oo, on, oc, cs, os⟩ zi ∧ first ≤ zi) := Lib.hid (hv.ex zi (by simp))
            have HGZ : Hid (Good (gr ⟨P, N, co, cn, cc, oo, on, oc, cs, os⟩ zi)) := Lib.hid (gr_good' HOK.out HEZ.out.1)
            have hzx : zn ≤ 9223372036854775807 := Nat.le_trans hs.le hs.top
            clear hlp hr hs hv hov hlen hw hown
            have hXb := (hull_rng HEZ.out.1.2.1 HEZ.out.1.2.2).1
            have HM1 : Hid (∀ p : Cls W, Calls Tryz.prog 36 #[.slice zo zn zc] p.w fun e w' => e = .returned (.int .i64 (hullA (gr ⟨P, N, co, cn, cc, oo, on, oc, cs, os⟩ zi))) ∧ Below p.w.heap.size p.w w') := Lib.hid (fun p => (first_any zo zn zc (gr ⟨P, N, co, cn, cc, oo, on, oc, cs, os⟩ zi) p.w (HSP.out.keep p.h) HEZ.out.1.2.2).mono (by rintro e w' ⟨rfl, rfl⟩; exact ⟨rfl, Below.refl _ _⟩))
            obtain ⟨X, hX⟩ : ∃ X, hullA (gr ⟨P, N, co, cn, cc, oo, on, oc, cs, os⟩ zi) = X := ⟨_, rfl⟩
            have HX := Lib.hid hX
            rw [hX] at HM1 hXb
            obtain ⟨X1, X2⟩ := hXb
            clear hX
            have f0 := Lib.hid (fun p : Cls W => cell_keep (show W.cell? ⟨b6, 0, none⟩ = some (.int .i64 A) from cell_block HWB.out.h6 0) p.h)
            have f1 := Lib.hid (fun p : Cls W => cell_keep (show W.cell? ⟨b6, 1, none⟩ = some (.int .i64 Z) from cell_block HWB.out.h6 1) p.h)
            gi_wp2
            have s1 := f1.out
            refine quiet_round (W := W) (by kernel_rfl) (by kernel_rfl) (by kernel_rfl) (Below.refl _ _) ?_
            repeat (first | gi_big_quiet_step (fail) | (refine BigFrame.wpQuietIn_want (fun _ _ _ _ => trivial) rfl (fun K hK => ?_); gi_big_quiet_op; refine ⟨_, fun _ => cls_call (HM1.out _), hK _ ?_⟩; clear hK K))
            refine wpQuietIn_nil ?_
            rintro w4 ⟨⟨wq, hw4⟩, hq⟩
            dsimp only at hq
            subst hq
            try dsimp only
            have HW4 := Lib.hid hw4
            have HWC := Lib.hid (HWB.out.keep HO.out hw4)
            have HOC := Lib.hid (keepB HOWN.out hw4)
            have HSC := Lib.hid (HSP.out.keep hw4)
            clear hw4 f0 f1 HM1 s1
            by_cases gt : Z < X
            · have t44 : decide (Z < X) = true := by simp; exact gt
              have HZ : Hid (OverIs ⟨P, N, co, cn, cc, oo, on, oc, cs, os⟩ l xs 0) := Lib.hid (over_break HRT.out HOK.out HLN.out HGL.out (by rw [← HH.out.1]; exact HFF.out) HVI.out (by rw [HX.out, ← HH.out.2.1]; exact gt) HOV.out HLEN.out)
              gi_wp2
              exact .inr ⟨.exit 0, .inr ⟨0, rfl, rfl⟩, keepsFrom_below HW4.out, .inl ⟨rfl, xs, _, v, HZ.out, HWC.out, HOC.out⟩⟩
            · have t44 : decide (Z < X) = false := by simp; omega
              obtain ⟨r1, hr1⟩ : ∃ r : Bool, r = true ↔ ∃ t, mem (gr ⟨P, N, co, cn, cc, oo, on, oc, cs, os⟩ zi) t ∧ mem [(A, Z)] t := by classical exact ⟨decide _, decide_eq_true_iff⟩
              obtain ⟨r2, hr2⟩ : ∃ r : Bool, r = true ↔ MeetL ⟨P, N, co, cn, cc, oo, on, oc, cs, os⟩ l zi := by classical exact ⟨decide _, decide_eq_true_iff⟩
              have HR1 : Hid (r1 = true ↔ HMeet ⟨P, N, co, cn, cc, oo, on, oc, cs, os⟩ l zi) := Lib.hid (by
                rw [hr1]; unfold HMeet; rw [← HH.out.1, ← HH.out.2.1]
                constructor
                · rintro ⟨t, a, b⟩; exact ⟨t, a, (mem_one _ _).1 b⟩
                · rintro ⟨t, a, b⟩; exact ⟨t, a, (mem_one _ _).2 b⟩)
              have HR2 := Lib.hid hr2
              have HLZ : Hid (zn ≤ 1000000) := Lib.hid (by rw [← HSC.out.len]; exact gr_len HOK.out zi)
              have ME1 := Lib.hid (meet_any zo (some ⟨g, 0, none⟩) zn zc 1 1 (gr ⟨P, N, co, cn, cc, oo, on, oc, cs, os⟩ zi) [(A, Z)] w4 HSC.out (sp_one HWC.out.hg) HGZ.out (good_one HAZ.out A1 Z2) (Nat.le_trans HLZ.out (by decide)) (by decide) r1 hr1)
              have ME2 := Lib.hid (fun W (hs : SpAt W zo zn zc (gr ⟨P, N, co, cn, cc, oo, on, oc, cs, os⟩ zi)) (hl : SpAt W lo ln lc l) => meet_any zo lo zn zc ln lc (gr ⟨P, N, co, cn, cc, oo, on, oc, cs, os⟩ zi) l W hs hl HGZ.out HGL.out (Nat.le_trans HLZ.out (by decide)) (Nat.le_trans hln (by decide)) r2 hr2)
              have p11 : w4.cell? ⟨b11, 0, none⟩ = some (.slice (some ⟨g, 0, none⟩) 1 1) := cell_block HWC.out.h11 0
              have HSOR := Lib.hid HVI.out.inc
              clear hr1 hr2
              gi_wp2
              refine ⟨trivial, ?_⟩
              refine (CallsIn.inRound lp (callsIn_wide.2 ME1.out)).mono ?_
              rintro e w5 ⟨rfl, q⟩
              have HW5 := Lib.hid (HW4.out.trans (q.mono HW4.out.size))
              have HWC := Lib.hid (HWC.out.keep HO.out q)
              have HOC := Lib.hid (keepB HOC.out q)
              have HSC := Lib.hid (HSC.out.keep q)
              clear q ME1 p11 HW4
              have p10 : w5.cell? ⟨b10, 0, none⟩ = some (.int .i64 (ys.length : Int)) := cell_block HWC.out.h10 0
              have c10 : w5.frozen? ⟨b10, 0, none⟩ = false := free_blk HWC.out.h10 0
              have p8 : w5.cell? ⟨b8, 0, none⟩ = some (.int .i64 first) := cell_block HWC.out.h8 0
              have hyl : (ys.length : Int) ≤ 60000 := by have := HLEN.out; omega
              have hy0 : (0 : Int) ≤ (ys.length : Int) := by omega
              cases r1
              · have HNM : Hid (¬ HMeet ⟨P, N, co, cn, cc, oo, on, oc, cs, os⟩ l zi) := Lib.hid (fun z => by have := HR1.out.2 z; cases this)
                have HNL : Hid (¬ MeetL ⟨P, N, co, cn, cc, oo, on, oc, cs, os⟩ l zi) := Lib.hid (fun z => HNM.out (meet_hmeet HGL.out z))
                have hr2f : r2 = false := by cases r2; rfl; exact absurd (HR2.out.1 rfl) HNL.out
                subst hr2f
                have hzf : zi = first := by
                  rcases Int.lt_or_eq_of_le HEZ.out.2 with z | z
                  · exact absurd (over_hit HRT.out HOK.out HLN.out (by rw [← HH.out.1]; exact HFF.out) HEZ.out.1 z (by rw [HX.out, ← HH.out.2.1]; omega)) HNM.out
                  · exact z.symm
                have t52 : decide (first < zi) = false := by simp; omega
                have t54 : decide ((60000 : Int) < (ys.length : Int)) = false := by simp; omega
                have q1 : w5.cell? ⟨b1, 0, none⟩ = some (.slice lo ln lc) := cell_block HWC.out.ob.l_ 0
                have HM2 := Lib.hid (ME2.out w5 HSC.out (HLL.out.keep HWC.out.ob.bw))
                have HNX : Hid (Ov ⟨P, N, co, cn, cc, oo, on, oc, cs, os⟩ l (pre ++ [zi]) xs ys) := Lib.hid (HOV.out.none HNL.out HNM.out)
                clear hzf
                gi_wp2
                refine ⟨trivial, ?_⟩
                refine (CallsIn.inRound lp (callsIn_wide.2 HM2.out)).mono ?_
                rintro e w6 ⟨rfl, q⟩
                have HW6 := Lib.hid (HW5.out.trans (q.mono HW5.out.size))
                have HWC := Lib.hid (HWC.out.keep HO.out q)
                have HOC := Lib.hid (keepB HOC.out q)
                clear q p10 c10 p8 q1
                gi_wp2
                exact .inl ⟨rfl, keepsFrom_below HW6.out, Ky.keep (Nat.le_trans HB.out.bw.size HWB.out.sz) (Nat.lt_of_lt_of_le HSX.out.1 HWB.out.sz) (Nat.lt_of_lt_of_le HSX.out.2.1 HWB.out.sz) HW6.out, xs, ys, v, HNX.out, HLEN.out, HVI.out, HWC.out, HOC.out⟩
              · have HMM := Lib.hid (HR1.out.1 rfl)
                have HOO := HO
                have m1 : ¬ b2 = b10 := by have := HO.out; have := this.q2; have := HO.out.q3; have := HO.out.o6; have := HO.out.o8; have := HO.out.o9; have := HO.out.o10; omega
                have m2 : ¬ b10 = b2 := fun z => m1 z.symm
                have m3 : ¬ b3 = b10 := by have := HO.out.o6; have := HO.out.o8; have := HO.out.o9; have := HO.out.o10; omega
                have m4 : ¬ b10 = b3 := fun z => m3 z.symm
                have m5 : ¬ b1 = b10 := by have := HO.out.q1; have := HO.out.q3; have := HO.out.o6; have := HO.out.o8; have := HO.out.o9; have := HO.out.o10; omega
                have m6 : ¬ b10 = b1 := fun z => m5 z.symm
                have HSN := Lib.hid (HWC.out.seen HO.out ((ys.length : Int) + 1))
                by_cases big : 60000 < ys.length + 1
                · have t54 : decide ((60000 : Int) < (ys.length : Int) + 1) = true := by simp; omega
                  have HZ : Hid (OverIs ⟨P, N, co, cn, cc, oo, on, oc, cs, os⟩ l [] 3) := Lib.hid (by
                    by_cases ml : MeetL ⟨P, N, co, cn, cc, oo, on, oc, cs, os⟩ l zi
                    · exact over_long HGL.out HVI.out (HOV.out.both HSOR.out ml HMM.out) (by rw [List.length_append]; simp; omega)
                    · exact over_long HGL.out HVI.out (HOV.out.one HSOR.out ml HMM.out) (by rw [List.length_append]; simp; omega))
                  have HX := Lib.hid (HSN.out.ob.out (.slice none 0 0) 3)
                  have g2 : w5.cell? ⟨b2, 0, none⟩ = some (.slice none 0 0) := cell_block HWC.out.ob.r 0
                  have g3 : w5.cell? ⟨b3, 0, none⟩ = some (.int .i64 0) := cell_block HWC.out.ob.e 0
                  have k2 : w5.frozen? ⟨b2, 0, none⟩ = false := free_blk HWC.out.ob.r 0
                  have k3 : w5.frozen? ⟨b3, 0, none⟩ = false := free_blk HWC.out.ob.e 0
                  gi_wp2
                  exact .inr ⟨.ret, .inl ⟨rfl, rfl⟩, (keepsFrom_below HW5.out).trans ((((KeepsOthers.setCell _ _ _).trans (KeepsOthers.setCell _ _ _)).trans (KeepsOthers.setCell _ _ _)).from _), .inr ⟨rfl, HZ.out, HX.out.1, HX.out.2.1, HX.out.2.2⟩⟩
                · have t54 : decide ((60000 : Int) < (ys.length : Int) + 1) = false := by simp; omega
                  have HS6 := Lib.hid (spAt_box (v := .int .i64 ((ys.length : Int) + 1)) HSC.out HWC.out.h10)
                  have HO6 := Lib.hid (own_off HOC.out (grown_cell w5 ⟨b10, 0, none⟩ (.int .i64 ((ys.length : Int) + 1))) (fun r e => by cases e; exact .inl HO.out.t10))
                  have HK6 : Hid (KeepsFrom W0.heap.size W (w5.setCell ⟨b10, 0, none⟩ (.int .i64 ((ys.length : Int) + 1)))) := Lib.hid ((keepsFrom_below HW5.out).trans ((KeepsOthers.setCell _ _ _).from _))
                  have HY6 : Hid (Ky w.heap.size x y W (w5.setCell ⟨b10, 0, none⟩ (.int .i64 ((ys.length : Int) + 1)))) := Lib.hid (ky_set (Ky.keep (Nat.le_trans HB.out.bw.size HWB.out.sz) (Nat.lt_of_lt_of_le HSX.out.1 HWB.out.sz) (Nat.lt_of_lt_of_le HSX.out.2.1 HWB.out.sz) HW5.out) (by have := HWC.out.ob.q0; have := HO.out.q1; have := HO.out.q3; have := HO.out.o6; have := HO.out.o8; have := HO.out.o9; have := HO.out.o10; omega) (by have := HSX.out; omega) (by have := HSX.out; omega) _)
                  have HM2 := Lib.hid (ME2.out _ HS6.out (HLL.out.keep HSN.out.ob.bw))
                  have q1 : w5.cell? ⟨b1, 0, none⟩ = some (.slice lo ln lc) := cell_block HWC.out.ob.l_ 0
                  gi_wp2
                  refine ⟨trivial, ?_⟩
                  refine (CallsIn.inRound lp (callsIn_wide.2 HM2.out)).mono ?_
                  rintro e w7 ⟨rfl, q⟩
                  have HSZ6 : Hid (W0.heap.size ≤ (w5.setCell ⟨b10, 0, none⟩ (.int .i64 ((ys.length : Int) + 1))).heap.size) := Lib.hid HSN.out.sz
                  have HW7 := Lib.hid (HSN.out.keep HO.out q)
                  have HO7 := Lib.hid (keepB HO6.out q)
                  have HK7 := Lib.hid (HK6.out.trans (keepsFrom_below q))
                  have HY7 := Lib.hid (HY6.out.trans (Ky.keep (n₀ := w.heap.size) (Nat.le_trans HB.out.bw.size HSZ6.out) (Nat.lt_of_lt_of_le HSX.out.1 HSZ6.out) (Nat.lt_of_lt_of_le HSX.out.2.1 HSZ6.out) q))
                  clear q p10 c10 p8 q1 HM2 HS6 HO6 HK6 HY6 HSN HSZ6 HWC HOC HSC ME2
                  cases r2
                  · have HNL : Hid (¬ MeetL ⟨P, N, co, cn, cc, oo, on, oc, cs, os⟩ l zi) := Lib.hid (fun z => by have := HR2.out.2 z; cases this)
                    have HNX : Hid (Ov ⟨P, N, co, cn, cc, oo, on, oc, cs, os⟩ l (pre ++ [zi]) xs (ys ++ [zi])) := Lib.hid (HOV.out.one HSOR.out HNL.out HMM.out)
                    have HCL : Hid ((ys ++ [zi]).length ≤ 60000 ∧ ((ys ++ [zi]).length : Int) = (ys.length : Int) + 1) := Lib.hid (by rw [List.length_append]; simp; omega)
                    gi_wp2
                    exact .inl ⟨rfl, HK7.out, HY7.out, xs, _, v, HNX.out, HCL.out.1, HVI.out, by rw [HCL.out.2]; exact HW7.out, HO7.out⟩
                  · have HNX : Hid (Ov ⟨P, N, co, cn, cc, oo, on, oc, cs, os⟩ l (pre ++ [zi]) (xs ++ [zi]) (ys ++ [zi])) := Lib.hid (HOV.out.both HSOR.out (HR2.out.1 rfl) HMM.out)
                    have HCL : Hid ((ys ++ [zi]).length ≤ 60000 ∧ ((ys ++ [zi]).length : Int) = (ys.length : Int) + 1) := Lib.hid (by rw [List.length_append]; simp; omega)
                    have p9 : w7.cell? ⟨b9, 0, none⟩ = some v := cell_block HW7.out.h9 0
                    have c9 : w7.frozen? ⟨b9, 0, none⟩ = false := free_blk HW7.out.h9 0
                    have HXL : Hid (xs.length ≤ 60000) := Lib.hid (Nat.le_trans (sorted_len HOV.out.xi HOV.out.yi (fun i hi => (HOV.out.ym i).2 ⟨((HOV.out.xm i).1 hi).1, meet_hmeet HGL.out ((HOV.out.xm i).1 hi).2⟩)) HLEN.out)
                    obtain ⟨i0, hi0, hz0, hz1, hz2⟩ := info_parts info3
                    have HI3 := Lib.hid hi0
                    have HZ0 := Lib.hid hz0
                    have HZ1 := Lib.hid hz1
                    have HZ2 := Lib.hid hz2
                    clear hi0 hz0 hz1 hz2
                    gi_wp2_with (gi_at_builtin; refine wpListIn_append_own _ rfl _ _ 41 rfl W0.heap.size 3 i0 (.int .i64 0) 1 8 Tryz.underlying41 HI3.out HZ0.out HZ1.out HZ2.out rfl (by decide) _ _ _ rfl (keepB HO7.out ((Below.refl _ _).alloc (Nat.le_refl _) _)) ⟨w7.heap.size, 0, none⟩ 1 1 [.int .i64 zi] rfl rfl (World.news_of_block (cs := #[.int .i64 zi]) (t := 3) (fr := (0, 0)) (World.alloc_heap_new w7 _)) (by intro y hy; simp at hy; subst hy; rfl) (by unfold maxLen; have := HXL.out; omega) (by have := HXL.out; omega) (by have := HW7.out.sz; simp; omega) ?_; intro v' w8 hown' hgrow _; obtain ⟨g', cap', rfl⟩ := ownsRow_succ hown'; have HA8 := Lib.hid ((HW7.out.keep HO.out ((Below.refl _ w7).alloc (Nat.le_refl _) (.cells #[.int .i64 zi] 3))).grown HO.out hgrow (fun r e => (HO7.out.lt r e).1)); have HN8 := Lib.hid hown'; have HG8 := Lib.hid hgrow; have p9' : w8.cell? ⟨b9, 0, none⟩ = some v := cell_block HA8.out.h9 0; have c9' : w8.frozen? ⟨b9, 0, none⟩ = false := free_blk HA8.out.h9 0; clear hown' hgrow)
                    have HFO := Lib.hid (HA8.out.list HO.out (.slice (some ⟨g', 0, none⟩) (xs.length + 1) cap'))
                    have HFR : Hid ((w8.setCell ⟨b9, 0, none⟩ (.slice (some ⟨g', 0, none⟩) (xs.length + 1) cap')).ownsRow W0.heap.size 3 1 (.slice (some ⟨g', 0, none⟩) (xs.length + 1) cap') (xs ++ [zi]).length (ints (xs ++ [zi]))) := Lib.hid (by
                      have q := own_off HN8.out (grown_cell w8 ⟨b9, 0, none⟩ (.slice (some ⟨g', 0, none⟩) (xs.length + 1) cap')) (fun r e => by cases e; exact .inl (show b9 < W0.heap.size from Nat.lt_trans HO.out.o10 HO.out.t10))
                      rw [ints_snoc] at q
                      rw [List.length_append]; exact q)
                    exact .inl ⟨rfl, (HK7.out.trans (keeps_app HO7.out HG8.out)).trans ((KeepsOthers.setCell _ _ _).from _), ky_set (HY7.out.trans (ky_app (Ky.refl _ _ _ _) HO7.out HB.out.bw.size HSX.out.1 HSX.out.2.1 HW7.out.sz HG8.out)) (by have := HWB.out.ob.q0; have := HO.out.q1; have := HO.out.q3; have := HO.out.o6; have := HO.out.o8; have := HO.out.o9; omega) (by have := HSX.out; omega) (by have := HSX.out; omega) _, xs ++ [zi], _, _, HNX.out, HCL.out.1, HVI.out, by rw [HCL.out.2]; exact HFO.out, HFR.out⟩
          case done =>
            rintro D s W hD hS hI hK
            obtain ⟨xs, ys, v, hov, hlen, hvis, hw, hown⟩ := hI
            have HZ : Hid (OverIs ⟨P, N, co, cn, cc, oo, on, oc, cs, os⟩ l xs 0) := Lib.hid (over_all HOK.out HGL.out (by rw [← HH.out.1]; exact HFF.out) hS hov hlen)
            have HWB := Lib.hid hw
            have HOWN := Lib.hid hown
            have HKD := Lib.hid hK
            have HDD := Lib.hid hD
            clear hD hS hov hlen hvis hw hown hK
            have g2 : W.cell? ⟨b2, 0, none⟩ = some (.slice none 0 0) := cell_block HWB.out.ob.r 0
            have g3 : W.cell? ⟨b3, 0, none⟩ = some (.int .i64 0) := cell_block HWB.out.ob.e 0
            have k2 : W.frozen? ⟨b2, 0, none⟩ = false := free_blk HWB.out.ob.r 0
            have k3 : W.frozen? ⟨b3, 0, none⟩ = false := free_blk HWB.out.ob.e 0
            have p9 : W.cell? ⟨b9, 0, none⟩ = some v := cell_block HWB.out.h9 0
            obtain ⟨av, nv, cv, rfl⟩ : ∃ av nv cv, v = .slice av nv cv := by
              rcases HOWN.out.2 with ⟨q, _⟩ | ⟨q, cap, _, hv, _⟩
              · exact ⟨_, _, _, q⟩
              · exact ⟨_, _, _, hv⟩
            have HX := Lib.hid (HWB.out.ob.out (.slice av nv cv) 0)
            have n2 : ¬ b2 = D := by have := HDD.out; have := HO.out.q2; have := HO.out.q3; have := HO.out.o6; have := HO.out.o8; have := HO.out.o9; have := HO.out.o10; have := HO.out.t10; omega
            have n3 : ¬ b3 = D := by have := HDD.out; have := HO.out.o6; have := HO.out.o8; have := HO.out.o9; have := HO.out.o10; have := HO.out.t10; omega
            have HKE : Hid (((W.setCell ⟨b2, 0, none⟩ (.slice av nv cv)).setCell ⟨b3, 0, none⟩ (.int .i64 0)).heap[D]? = some (.deferred (some []))) := Lib.hid (((Below.heap_setCell _ ⟨b3, 0, none⟩ _ D (fun z => n3 z.symm)).trans (Below.heap_setCell W ⟨b2, 0, none⟩ _ D (fun z => n2 z.symm))).trans HKD.out)
            have HOE : Hid (((W.setCell ⟨b2, 0, none⟩ (.slice av nv cv)).setCell ⟨b3, 0, none⟩ (.int .i64 0)).ownsRow W0.heap.size 3 1 (.slice av nv cv) xs.length (ints xs)) := Lib.hid (own_off (own_off HOWN.out (grown_cell W ⟨b2, 0, none⟩ _) (fun r e => by cases e; exact .inl (show b2 < W0.heap.size by have := HO.out.q2; have := HO.out.q3; have := HO.out.o6; have := HO.out.o8; have := HO.out.o9; have := HO.out.o10; have := HO.out.t10; omega))) (grown_cell _ ⟨b3, 0, none⟩ _) (fun r e => by cases e; exact .inl (show b3 < W0.heap.size by have := HO.out.o6; have := HO.out.o8; have := HO.out.o9; have := HO.out.o10; have := HO.out.t10; omega)))
            clear HKD
            try gi_wp2
            try go_wp2
            refine ⟨by simp, .inl ⟨_, _, rfl, run_takeDeferred HKE.out, ?_⟩⟩
            obtain ⟨x2, x3, xb⟩ := HX.out
            obtain ⟨we, hwe⟩ : ∃ we, (W.setCell ⟨b2, 0, none⟩ (.slice av nv cv)).setCell ⟨b3, 0, none⟩ (.int .i64 0) = we := ⟨_, rfl⟩
            rw [hwe] at x2 x3 xb HKE HOE ⊢
            have r0 : (we.putObj D (.deferred none)).cell? ⟨b2, 0, none⟩ = some (.slice av nv cv) := by rw [← x2]; exact World.cell?_of_block (w := we) (World.putObj_heap_other n2)
            have r1 : (we.putObj D (.deferred none)).cell? ⟨b3, 0, none⟩ = some (.int .i64 0) := by rw [← x3]; exact World.cell?_of_block (w := we) (World.putObj_heap_other n3)
            exact ⟨.tuple #[.slice av nv cv, .int .i64 0], by simp [results, Tryz.results16, go_sem, r0, r1], ⟨⟨.slice av nv cv, xs, 0, rfl, HZ.out, own_base (ownsRow_putObj HOE.out _ HKE.out rfl) HB.out.bw.size⟩, Lib.hid (xb.trans (belowK_b (w := W0) HB.out.bw.size we D _ _ HDD.out HKE.out rfl rfl))⟩⟩
          case stop =>
            rintro D c s W hD hX hK
            have HKD := Lib.hid hK
            have HDD := Lib.hid hD
            clear hD hK
            rcases hX with ⟨rfl, xs, sn, v, hz, hw, hown⟩ | ⟨rfl, hz, h2, h3, hb⟩
            · have HZ := Lib.hid hz
              have HWB := Lib.hid hw
              have HOWN := Lib.hid hown
              clear hz hw hown
              have g2 : W.cell? ⟨b2, 0, none⟩ = some (.slice none 0 0) := cell_block HWB.out.ob.r 0
              have g3 : W.cell? ⟨b3, 0, none⟩ = some (.int .i64 0) := cell_block HWB.out.ob.e 0
              have k2 : W.frozen? ⟨b2, 0, none⟩ = false := free_blk HWB.out.ob.r 0
              have k3 : W.frozen? ⟨b3, 0, none⟩ = false := free_blk HWB.out.ob.e 0
              have p9 : W.cell? ⟨b9, 0, none⟩ = some v := cell_block HWB.out.h9 0
              obtain ⟨av, nv, cv, rfl⟩ : ∃ av nv cv, v = .slice av nv cv := by
                rcases HOWN.out.2 with ⟨q, _⟩ | ⟨q, cap, _, hv, _⟩
                · exact ⟨_, _, _, q⟩
                · exact ⟨_, _, _, hv⟩
              have HX := Lib.hid (HWB.out.ob.out (.slice av nv cv) 0)
              have n2 : ¬ b2 = D := by have := HDD.out; have := HO.out.q2; have := HO.out.q3; have := HO.out.o6; have := HO.out.o8; have := HO.out.o9; have := HO.out.o10; have := HO.out.t10; omega
              have n3 : ¬ b3 = D := by have := HDD.out; have := HO.out.o6; have := HO.out.o8; have := HO.out.o9; have := HO.out.o10; have := HO.out.t10; omega
              have HKE : Hid (((W.setCell ⟨b2, 0, none⟩ (.slice av nv cv)).setCell ⟨b3, 0, none⟩ (.int .i64 0)).heap[D]? = some (.deferred (some []))) := Lib.hid (((Below.heap_setCell _ ⟨b3, 0, none⟩ _ D (fun z => n3 z.symm)).trans (Below.heap_setCell W ⟨b2, 0, none⟩ _ D (fun z => n2 z.symm))).trans HKD.out)
              have HOE : Hid (((W.setCell ⟨b2, 0, none⟩ (.slice av nv cv)).setCell ⟨b3, 0, none⟩ (.int .i64 0)).ownsRow W0.heap.size 3 1 (.slice av nv cv) xs.length (ints xs)) := Lib.hid (own_off (own_off HOWN.out (grown_cell W ⟨b2, 0, none⟩ _) (fun r e => by cases e; exact .inl (show b2 < W0.heap.size by have := HO.out.q2; have := HO.out.q3; have := HO.out.o6; have := HO.out.o8; have := HO.out.o9; have := HO.out.o10; have := HO.out.t10; omega))) (grown_cell _ ⟨b3, 0, none⟩ _) (fun r e => by cases e; exact .inl (show b3 < W0.heap.size by have := HO.out.o6; have := HO.out.o8; have := HO.out.o9; have := HO.out.o10; have := HO.out.t10; omega)))
              clear HKD
              try gi_wp2
              try go_wp2
              refine ⟨by simp, .inl ⟨_, _, rfl, run_takeDeferred HKE.out, ?_⟩⟩
              obtain ⟨x2, x3, xb⟩ := HX.out
              obtain ⟨we, hwe⟩ : ∃ we, (W.setCell ⟨b2, 0, none⟩ (.slice av nv cv)).setCell ⟨b3, 0, none⟩ (.int .i64 0) = we := ⟨_, rfl⟩
              rw [hwe] at x2 x3 xb HKE HOE ⊢
              have r0 : (we.putObj D (.deferred none)).cell? ⟨b2, 0, none⟩ = some (.slice av nv cv) := by rw [← x2]; exact World.cell?_of_block (w := we) (World.putObj_heap_other n2)
              have r1 : (we.putObj D (.deferred none)).cell? ⟨b3, 0, none⟩ = some (.int .i64 0) := by rw [← x3]; exact World.cell?_of_block (w := we) (World.putObj_heap_other n3)
              exact ⟨.tuple #[.slice av nv cv, .int .i64 0], by simp [results, Tryz.results16, go_sem, r0, r1], ⟨⟨.slice av nv cv, xs, 0, rfl, HZ.out, own_base (ownsRow_putObj HOE.out _ HKE.out rfl) HB.out.bw.size⟩, Lib.hid (xb.trans (belowK_b (w := W0) HB.out.bw.size we D _ _ HDD.out HKE.out rfl rfl))⟩⟩
            · have HZ := Lib.hid hz
              have H2 := Lib.hid h2
              have H3 := Lib.hid h3
              have HBW := Lib.hid hb
              clear hz h2 h3 hb
              gi_wp2
              refine ⟨by simp, .inl ⟨_, _, rfl, run_takeDeferred HKD.out, ?_⟩⟩
              have n2 : ¬ b2 = D := by have := HDD.out; have := HO.out.q2; have := HO.out.q3; have := HO.out.o6; have := HO.out.o8; have := HO.out.o9; have := HO.out.o10; have := HO.out.t10; omega
              have n3 : ¬ b3 = D := by have := HDD.out; have := HO.out.o6; have := HO.out.o8; have := HO.out.o9; have := HO.out.o10; have := HO.out.t10; omega
              have r0 : (W.putObj D (.deferred none)).cell? ⟨b2, 0, none⟩ = some (.slice none 0 0) := by rw [← H2.out]; exact World.cell?_of_block (w := W) (World.putObj_heap_other n2)
              have r1 : (W.putObj D (.deferred none)).cell? ⟨b3, 0, none⟩ = some (.int .i64 3) := by rw [← H3.out]; exact World.cell?_of_block (w := W) (World.putObj_heap_other n3)
              exact ⟨.tuple #[.slice none 0 0, .int .i64 3], by simp [results, Tryz.results16, go_sem, r0, r1], ⟨⟨.slice none 0 0, [], 3, rfl, HZ.out, World.ownsRow_nil _ _ _ _⟩, Lib.hid (HBW.out.trans (belowK_b (w := W0) HB.out.bw.size W D _ _ HDD.out HKD.out rfl rfl))⟩⟩
end Go.Proofs.YtjhbgedobkpdhaaGreat
