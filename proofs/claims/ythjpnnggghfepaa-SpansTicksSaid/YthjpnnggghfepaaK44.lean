/- Contracts: what is kept of two right sets: union. -/
import Derived.Test.YthjpnnggghfepaaS9
namespace Go.Proofs.Ythjpnnggghfepaa
set_option linter.unusedVariables false
set_option linter.unusedSimpArgs false
open Go.ChangeShapes Go.WideShapes Go.ChangeAt Go.RowKit Go.Shelf
attribute [local go_sem] Oper.semAt_some
/-- The iterator that borders hands back. -/
theorem borders_stops (n : Nat) (hn : 1 ≤ n) (x y : Nat) (ao bo : Option Addr) (m1 c1 m2 c2 : Nat) (a b : List Sp) (ga : Good a) (gb : Good b) (h1 : m1 ≤ 1000000) (h2 : m2 ≤ 1000000) (w w1 : World) (hb : Below w.heap.size w w1)
    (hx : w1.cell? ⟨x, 0, none⟩ = some (.slice ao m1 c1)) (hy : w1.cell? ⟨y, 0, none⟩ = some (.slice bo m2 c2)) (ha : SpAt w ao m1 c1 a) (hb2 : SpAt w bo m2 c2 b) :
    SeqStopsK Fence.wide n Try.prog 67 #[.pointer (some ⟨x, 0, none⟩), .pointer (some ⟨y, 0, none⟩)] encs (Kx w.heap.size x y) (fun E => ∃ T, Run a b (vals E) T ∧ cnt a T = 2 * a.length ∧ cnt b T = 2 * b.length) (fun _ => True) (2 * m1 + 2 * m2) w1 := fun l J Jx W hW hJ hJx hY h0 => by
  have lx := cell_here hx
  have ly := cell_here hy
  have ex : W.heap[x]? = w1.heap[x]? := hW.block x lx
  have ey : W.heap[y]? = w1.heap[y]? := hW.block y ly
  have hwW : Below w.heap.size w W := hb.trans (hW.mono hb.size)
  exact borders_in n hn l x y w.heap.size ao bo m1 c1 m2 c2 a b ga gb h1 h2 J Jx W hY hJ (fun W' hk => by
    have k1 := hwW.trans hk.below
    refine ⟨?_, ?_, ha.keep k1, hb2.keep k1⟩
    · rw [← hx]; exact World.cell?_of_block (w := w1) (hk.x_.trans ex)
    · rw [← hy]; exact World.cell?_of_block (w := w1) (hk.y_.trans ey)) h0
theorem kx_put {n₀ x y : Nat} {w : World} (h : n₀ ≤ w.heap.size) (hx : x < w.heap.size) (hy : y < w.heap.size) (W : World) (l : Nat) (o o' : Obj) (hl : w.heap.size ≤ l) (h0 : W.heap[l]? = some o) (h1 : o.isCells = false) (h2 : o.isWalk = false) : Kx n₀ x y W (W.putObj l o') :=
  ⟨belowK_b (w := w) h W l o o' hl h0 h1 h2, World.putObj_heap_other (by omega), World.putObj_heap_other (by omega)⟩
theorem kx_set {n₀ x y : Nat} {A W : World} (h : Kx n₀ x y A W) {q : Nat} (hq : n₀ ≤ q) (hx : q ≠ x) (hy : q ≠ y) (v : Value) : Kx n₀ x y A (W.setCell ⟨q, 0, none⟩ v) :=
  ⟨h.below.setCell (p := ⟨q, 0, none⟩) hq v, (Below.heap_setCell W ⟨q, 0, none⟩ v x (Ne.symm hx)).trans h.x_, (Below.heap_setCell W ⟨q, 0, none⟩ v y (Ne.symm hy)).trans h.y_⟩
theorem kx_alloc {n₀ x y : Nat} {A W : World} (h : Kx n₀ x y A W) (hn : n₀ ≤ W.heap.size) (hx : x < W.heap.size) (hy : y < W.heap.size) (o : Obj) : Kx n₀ x y A (W.alloc o) :=
  ⟨h.below.alloc hn o, (Below.heap_alloc W o x hx).trans h.x_, (Below.heap_alloc W o y hy).trans h.y_⟩
/-- What a fold has come to, in the caller's boxes. -/
structure Parts (h : Nat) (fv sa sb : Value) (st : List Sp × Int × Bool) (W : World) : Prop where
  set_ : ∃ v, Boxed W (h + 1) 22 v ∧ W.ownsRow h 35 2 v st.1.length (spCells st.1) ∧ True
  from_ : Boxed W (h + 2) 3 (.int .i64 st.2.1)
  open_ : Boxed W (h + 3) 4 (.bool st.2.2)
  fun_ : Boxed W h 55 fv
  xa : Boxed W (h + 4) 22 sa
  xb : Boxed W (h + 5) 22 sb
abbrev Held (f : Bool → Bool → Bool) (h : Nat) (fv sa sb : Value) (pre : List EvB) (W : World) : Prop := Parts h fv sa sb (puts f (vals pre)) W
theorem held_own (f : Bool → Bool → Bool) (h B : Nat) (fv sa sb : Value) : OwnFrom B (Held f h fv sa sb) := fun s A W row hs hg hr =>
  ⟨holdsRow_own h (h + 1) 22 35 2 (fun pre => (puts f (vals pre)).1.length) (fun pre => spCells (puts f (vals pre)).1) (fun _ _ => True) s A W row hs.set_ hg (fun r e => (hr r e).2),
   boxed_own (h + 2) 3 (fun pre => .int .i64 (puts f (vals pre)).2.1) s A W row hs.from_ hg (fun r e => (hr r e).2),
   boxed_own (h + 3) 4 (fun pre => .bool (puts f (vals pre)).2.2) s A W row hs.open_ hg (fun r e => (hr r e).2),
   boxed_own h 55 (fun (_ : List EvB) => fv) s A W row hs.fun_ hg (fun r e => (hr r e).2),
   boxed_own (h + 4) 22 (fun (_ : List EvB) => sa) s A W row hs.xa hg (fun r e => (hr r e).2),
   boxed_own (h + 5) 22 (fun (_ : List EvB) => sb) s A W row hs.xb hg (fun r e => (hr r e).2)⟩
theorem Parts.alloc {h : Nat} {fv sa sb : Value} {st : List Sp × Int × Bool} {W : World} (k : Parts h fv sa sb st W) (o : Obj) : Parts h fv sa sb st (W.alloc o) := by
  obtain ⟨⟨v, a, b, _⟩, c, d, e, x, y⟩ := k
  exact ⟨⟨v, a.alloc o, keepB b ((Below.refl _ W).alloc (Nat.le_refl _) o), trivial⟩, c.alloc o, d.alloc o, e.alloc o, x.alloc o, y.alloc o⟩
theorem Parts.open_set {h : Nat} {fv sa sb : Value} {R : List Sp} {fr : Int} {op : Bool} {W : World} (k : Parts h fv sa sb (R, fr, op) W) (b' : Bool) : Parts h fv sa sb (R, fr, b') (W.setCell ⟨h + 3, 0, none⟩ (.bool b')) := by
  obtain ⟨⟨v, a, b, _⟩, c, d, e, x, y⟩ := k
  exact ⟨⟨v, a.other (by omega) _, b.kept (grownBy_setCell' W (h + 3) _) (.inr (d.not_row (by decide) b).symm), trivial⟩, c.other (by omega) _, d.set _, e.other (by omega) _, x.other (by omega) _, y.other (by omega) _⟩
theorem Parts.from_set {h : Nat} {fv sa sb : Value} {R : List Sp} {fr : Int} {op : Bool} {W : World} (k : Parts h fv sa sb (R, fr, op) W) (z : Int) : Parts h fv sa sb (R, z, op) (W.setCell ⟨h + 2, 0, none⟩ (.int .i64 z)) := by
  obtain ⟨⟨v, a, b, _⟩, c, d, e, x, y⟩ := k
  exact ⟨⟨v, a.other (by omega) _, b.kept (grownBy_setCell' W (h + 2) _) (.inr (c.not_row (by decide) b).symm), trivial⟩, c.set _, d.other (by omega) _, e.other (by omega) _, x.other (by omega) _, y.other (by omega) _⟩
/-- A span more. -/
theorem Parts.grown {h : Nat} {fv sa sb : Value} {R S : List Sp} {fr : Int} {op : Bool} {W w1 : World} {v v' : Value} {tmp : Obj} (k : Parts h fv sa sb (R, fr, op) W) (hv : Boxed W (h + 1) 22 v) (hrow : W.ownsRow h 35 2 v R.length (spCells R)) (hn : h ≤ W.heap.size)
    {n : Nat} (hS : n = S.length) (hown : w1.ownsRow h 35 2 v' n (spCells S)) (hgrow : (W.alloc tmp).grownBy w1 v.ownBlock) :
    Boxed w1 (h + 1) 22 v ∧ Parts h fv sa sb (S, fr, op) (w1.setCell ⟨h + 1, 0, none⟩ v') ∧ KeepsOthers W (w1.setCell ⟨h + 1, 0, none⟩ v') ∧ Below h W (w1.setCell ⟨h + 1, 0, none⟩ v') := by
  obtain ⟨h1, h2, h3, h4, h5⟩ := hv.appended (n₀ := h) (by decide) hrow hn (by omega) hown hgrow
  obtain ⟨_, c, d, e, x, y⟩ := k
  have far : ∀ {B : Nat} {t : TypeId} {u : Value}, Boxed W B t u → t ≠ 35 → B ≠ h + 1 → Boxed (w1.setCell ⟨h + 1, 0, none⟩ v') B t u := fun b ht hB =>
    ((b.alloc tmp).kept hgrow (b.not_row ht hrow)).other hB _
  exact ⟨h1, ⟨⟨v', h2, by subst hS; exact h3, trivial⟩, far c (by decide) (by omega), far d (by decide) (by omega), far e (by decide) (by omega), far x (by decide) (by omega), far y (by decide) (by omega)⟩, h4, h5⟩
theorem kx_parts {h : Nat} {fv sa sb fv' : Value} {st st' : List Sp × Int × Bool} {n₀ : Nat} {W W' : World} (k : Parts h fv sa sb st W) (k' : Parts h fv' sa sb st' W') (hb : Below n₀ W W') : Kx n₀ (h + 4) (h + 5) W W' :=
  ⟨hb, (show W'.heap[h + 4]? = _ from k'.xa).trans (show W.heap[h + 4]? = _ from k.xa).symm, (show W'.heap[h + 5]? = _ from k'.xb).trans (show W.heap[h + 5]? = _ from k.xb).symm⟩
theorem box_at (W : World) (t : TypeId) (v : Value) {k : Nat} (h : W.heap.size = k) : Boxed (W.alloc (.cells #[v] t)) k t v := by subst h; exact Boxed.new W t v
theorem cells_new2q (w : World) (x y : Value) (t : TypeId) {k : Nat} (hk : w.heap.size = k) : ∀ (j : Nat) (u : Value), [x, y][j]? = some u → (w.alloc (.cells #[x, y] t)).cell? ((⟨k, 0, none⟩ : Addr).add j) = some u := by
  subst hk; exact cells_new2 w x y t
/-- The loop's variable, boxed. -/
def Pair (W : World) (B : Nat) (p q : Bool) : Prop := W.heap[B]? = some (.cells #[.bool p, .bool q] 54 (0, 0))
theorem Pair.lt {W : World} {B : Nat} {p q : Bool} (h : Pair W B p q) : B < W.heap.size := (Array.getElem?_eq_some_iff.1 h).1
theorem Pair.cells {W : World} {B : Nat} {p q : Bool} (h : Pair W B p q) : W.cell? ⟨B, 0, none⟩ = some (.bool p) ∧ W.cell? ⟨B, 1, none⟩ = some (.bool q) := by
  have h' : W.heap[B]? = some (.cells #[.bool p, .bool q] 54 (0, 0)) := h
  constructor <;> (unfold World.cell?; rw [h']; rfl)
theorem vals_snoc (pre : List EvB) (x : EvB) : vals (pre ++ [x]) = vals pre ++ [x.1] := by simp [vals]
theorem puts_len (f : Bool → Bool → Bool) : ∀ (E : List Ev), (puts f E).1.length ≤ E.length := by
  intro E
  obtain ⟨r, hr⟩ : ∃ r, E.reverse = r := ⟨_, rfl⟩
  induction r generalizing E with
  | nil => rw [List.reverse_eq_nil_iff] at hr; subst hr; simp [puts]
  | cons e r ih =>
    have hE : E = r.reverse ++ [e] := by have := congrArg List.reverse hr; simpa using this
    subst hE
    have := ih r.reverse (by simp)
    rw [puts_snoc]
    have e2 : (r.reverse ++ [e]).length = r.reverse.length + 1 := by simp
    rw [e2]
    unfold put
    dsimp only
    split
    · simp only [List.length_append, List.length_cons, List.length_nil]; omega
    · omega
theorem vals_len (E : List EvB) : (vals E).length = E.length := by simp [vals]

def Funion (p q : Bool) : Bool := (p || q)
theorem want_union (p q : Bool) (w : World) : Calls Try.prog 44 #[.agg #[.bool p, .bool q]] w fun e w' => e = .returned (.bool (Funion p q)) ∧ w' = w.alloc (.cells #[.bool p, .bool q] 54) := by
  cases p <;> cases q <;> simp only [Funion]
  all_goals
    go_enter Try.func44, Try.ntmps44
    go_wp2
    go_returns
    exact ⟨rfl, rfl⟩
set_option maxRecDepth 100000 in
set_option maxHeartbeats 4000000 in
theorem keep_union (ao bo : Option Addr) (m1 c1 m2 c2 : Nat) (a b : List Sp) (ga : Good a) (gb : Good b) (h1 : m1 ≤ 1000000) (h2 : m2 ≤ 1000000) (w : World) (ha : SpAt w ao m1 c1 a) (hb : SpAt w bo m2 c2 b) :
    Calls Try.prog 43 #[.slice ao m1 c1, .slice bo m2 c2, .func (.func 44) #[] #[]] w fun e w' => ∃ v r, e = .returned v ∧ Good r ∧ (∀ t, mem r t ↔ Funion (decide (cnt a t % 2 = 1)) (decide (cnt b t % 2 = 1)) = true) ∧ r.length ≤ 2 * m1 + 2 * m2 ∧ w'.ownsRow w.heap.size 35 2 v r.length (spCells r) ∧ Below w.heap.size w w' := by
  obtain ⟨i0, hi, hz0, hz1, hz2⟩ := info_parts info35
  refine (callsIn_wide (n := 3)).1 ?_
  refine callsIn_of_wp_marks Try.func43 rfl trivial ?_ rfl
  simp only [Try.ntmps43, List.size_toArray, List.length_cons, List.length_nil, Nat.reduceAdd, Nat.reduceSub, Array.replicate_succ, Array.replicate_zero, List.push_toArray, List.append_toArray, List.nil_append, List.cons_append]
  gi_wp2_with (refine ⟨trivial, ?_⟩; gi_at_call 54; refine (callsIn_wide.2 (borders_any ao bo m1 c1 m2 c2 _)).mono ?_; rintro e w' ⟨rfl, rfl⟩)
  obtain ⟨h, hh⟩ : ∃ h, w.heap.size = h := ⟨_, rfl⟩
  have s1 : h + 1 + 1 = h + 2 := by omega
  have s2 : h + 2 + 1 = h + 3 := by omega
  have s3 : h + 3 + 1 = h + 4 := by omega
  have s4 : h + 4 + 1 = h + 5 := by omega
  rw [hh]
  simp only [s1, s2, s3, s4]
  obtain ⟨W0, hW0⟩ : ∃ W0, ((((((w.alloc (.cells #[.func (.func 44) #[] #[]] 55)).alloc (.cells #[.slice none 0 0] 22)).alloc (.cells #[.int .i64 0] 3)).alloc (.cells #[.bool false] 4)).alloc (.cells #[.slice ao m1 c1] 22)).alloc (.cells #[.slice bo m2 c2] 22)) = W0 := ⟨_, rfl⟩
  have hsz : W0.heap.size = h + 6 := by rw [← hW0, ← hh]; simp
  have b0 : Boxed W0 h 55 (.func (.func 44) #[] #[]) := by rw [← hW0]; exact (((((box_at w 55 _ hh).alloc _).alloc _).alloc _).alloc _).alloc _
  have b1 : Boxed W0 (h + 1) 22 (.slice none 0 0) := by rw [← hW0]; exact ((((box_at _ 22 _ (by simp [hh])).alloc _).alloc _).alloc _).alloc _
  have b2 : Boxed W0 (h + 2) 3 (.int .i64 0) := by rw [← hW0]; exact (((box_at _ 3 _ (by simp [hh])).alloc _).alloc _).alloc _
  have b3 : Boxed W0 (h + 3) 4 (.bool false) := by rw [← hW0]; exact ((box_at _ 4 _ (by simp [hh])).alloc _).alloc _
  have b4 : Boxed W0 (h + 4) 22 (.slice ao m1 c1) := by rw [← hW0]; exact (box_at _ 22 _ (by simp [hh])).alloc _
  have b5 : Boxed W0 (h + 5) 22 (.slice bo m2 c2) := by rw [← hW0]; exact box_at _ 22 _ (by simp [hh])
  have hB0 : Below w.heap.size w W0 := by rw [← hW0]; exact ((((((Below.refl _ w).alloc (Nat.le_refl _) _).alloc (by simp) _).alloc (by simp; omega) _).alloc (by simp; omega) _).alloc (by simp; omega) _).alloc (by simp; omega) _
  rw [hW0]
  clear hW0
  refine wpIn_rangeFunc_ownH rfl (by omega) (gf := 67) (lb := #[.pointer (some ⟨h + 4, 0, none⟩), .pointer (some ⟨h + 5, 0, none⟩)]) rfl trivial (enters_of Try.func67 (by kernel_rfl) rfl)
    (borders_stops 2 (by omega) (h + 4) (h + 5) ao bo m1 c1 m2 c2 a b ga gb h1 h2 w W0 hB0 b4.cell b5.cell ha hb) (fun p q => p.trans q) (kx_put (by rw [hh, hsz]; omega) (by omega) (by omega)) (Below.refl _ _) (fun _ => rfl)
    (fun pre W => Held Funion h (.func (.func 44) #[] #[]) (.slice ao m1 c1) (.slice bo m2 c2) pre W ∧ (Below w.heap.size w W ∧ (h + 6 ≤ W.heap.size ∧ pre.length ≤ 2 * m1 + 2 * m2)))
    (fun _ _ _ => False)
    (OwnFrom.and (held_own _ _ _ _ _ _) (OwnFrom.and (ownFrom_below (Nat.le_refl _) (by rw [hh, hsz]; omega)) (fun s A W row hs hg hr => ⟨Nat.le_trans hs.1 hg.size, hs.2⟩)))
    (fun _ _ _ _ _ hs _ _ => hs)
    ⟨⟨⟨_, b1, World.ownsRow_nil _ _ _ _, trivial⟩, b2, b3, b0, b4, b5⟩, hB0, by omega, by simp⟩
    (fun x a' W => ∃ Bx : Nat, True ∧ Pair W Bx x.1.2.1 x.1.2.2 ∧ a' = { tmps := #[.slice ao m1 c1, .slice bo m2 c2, .func (.func 44) #[] #[], undef, undef, .pointer (some ⟨h, 0, none⟩), .slice none 0 0, .pointer (some ⟨h + 1, 0, none⟩), .pointer (some ⟨h + 2, 0, none⟩), .pointer (some ⟨h + 3, 0, none⟩), .int .i64 x.1.1, .pointer (some ⟨Bx, 0, none⟩), undef, .slice ao m1 c1, .slice bo m2 c2, .func (.func 67) #[] #[.pointer (some ⟨h + 4, 0, none⟩), .pointer (some ⟨h + 5, 0, none⟩)], .int .i64 x.1.1, .agg #[.bool x.1.2.1, .bool x.1.2.2], undef, undef, undef, undef, undef, undef, undef, undef, undef, undef, undef, undef, undef, undef, undef, undef, undef, undef, undef, undef, undef, undef, undef], defers := [] })
    ?hAx ?assign ?body ?done ?stop
  case hAx =>
    rintro x a' s A W row ⟨Bx, hBx, hp, rfl⟩ hg hr
    refine ⟨Bx, hBx, (hg.block Bx hp.lt (fun e => ?_)).trans hp, rfl⟩
    obtain ⟨_, o, ho, hc⟩ := hr Bx e.symm
    rw [show A.heap[Bx]? = _ from hp] at ho; cases ho; cases hc
  case assign =>
    rintro l pre x W K ⟨hi0, hB, hS6, hS7⟩ hK
    obtain ⟨⟨z, p, q⟩, hz⟩ := x
    have hl1 := hi0.open_.lt
    unfold encs
    have KH := Lib.hid hi0
    have KB := Lib.hid hB
    clear hi0 hB hl1
    gi_wp2
    exact hK _ _ ((KeepsOthers.alloc _ _).from _) (kx_alloc (Kx.refl _ _ _ _) (by omega) (by omega) (by omega) _) ⟨KH.out.alloc _, KB.out.alloc (by omega) _, by simp; omega, hS7⟩ ⟨W.heap.size, trivial, World.alloc_heap_new W _, rfl⟩
  case body =>
    rintro l pre x a' W hl ⟨r, hr⟩ ⟨hH, hB, hS6, hS7⟩ ⟨Bx, hBx, hp, rfl⟩ hlt
    obtain ⟨⟨z, p, q⟩, hz⟩ := x
    have hpl := puts_len Funion (vals pre)
    rw [vals_len] at hpl
    have HS := Lib.hid (puts_snoc Funion (vals pre) (z, p, q))
    obtain ⟨st, hst⟩ : ∃ st, puts Funion (vals pre) = st := ⟨_, rfl⟩
    have hH' : Parts h (.func (.func 44) #[] #[]) (.slice ao m1 c1) (.slice bo m2 c2) (puts Funion (vals pre)) W := hH
    rw [hst] at hH' hpl HS
    obtain ⟨R, fr, op⟩ := st
    have HH := Lib.hid hH'
    have HBW := Lib.hid hB
    clear hH hH' hst hB
    have f0 := HH.out.fun_.cell
    obtain ⟨p0, p1⟩ := hp.cells
    have PA := HH.out.alloc (.cells #[.bool p, .bool q] 54)
    have o0 := PA.open_.cell
    have o1 := PA.open_.frozen
    have o2 := PA.from_.cell
    have o3 := PA.from_.frozen
    have WA := Lib.hid (fun (w : World) => want_union p q w)
    have HI := Lib.hid hi
    have HZ0 := Lib.hid hz0
    have HZ1 := Lib.hid hz1
    have HZ2 := Lib.hid hz2
    clear PA hi hz0 hz1 hz2 hp
    dsimp only at hz hpl
    obtain ⟨hz3, hz4⟩ := hz
    cases op
    · cases hw : Funion p q
      · rw [hw] at WA
        have HS2 : Hid (puts Funion (vals pre ++ [(z, p, q)]) = (R, fr, false)) := Lib.hid (by rw [HS.out]; unfold put; simp [hw])
        clear hw HS
        have PF := Lib.hid ((HH.out.alloc (.cells #[.bool p, .bool q] 54)).open_set false)
        have BF := Lib.hid (((Below.refl h W).alloc (by omega) (.cells #[.bool p, .bool q] 54)).setCell (p := ⟨h + 3, 0, none⟩) (by show _ ≤ h + 3; omega) (.bool false))
        gi_wp2_with (first | (refine ⟨trivial, ?_⟩; gi_at_call 44; with_reducible refine (CallsIn.inRound l (callsIn_wide.2 (WA.out _))).mono ?_; rintro e z1 ⟨rfl, rfl⟩))
        exact ⟨((KeepsOthers.alloc _ _).trans (KeepsOthers.setCell _ _ _)).from _, kx_parts HH.out PF.out (by rw [hh]; exact BF.out), by show Parts _ _ _ _ (puts _ (vals (pre ++ [_]))) _; rw [vals_snoc, HS2.out]; exact PF.out, HBW.out.trans (by rw [hh]; exact BF.out), by have := BF.out.size; omega, by simp; omega⟩
      · rw [hw] at WA
        have HS2 : Hid (puts Funion (vals pre ++ [(z, p, q)]) = (R, z, true)) := Lib.hid (by rw [HS.out]; unfold put; simp [hw])
        clear hw HS
        have PF := Lib.hid (((HH.out.alloc (.cells #[.bool p, .bool q] 54)).from_set z).open_set true)
        have BF := Lib.hid ((((Below.refl h W).alloc (by omega) (.cells #[.bool p, .bool q] 54)).setCell (p := ⟨h + 2, 0, none⟩) (by show _ ≤ h + 2; omega) (.int .i64 z)).setCell (p := ⟨h + 3, 0, none⟩) (by show _ ≤ h + 3; omega) (.bool true))
        gi_wp2_with (first | (refine ⟨trivial, ?_⟩; gi_at_call 44; with_reducible refine (CallsIn.inRound l (callsIn_wide.2 (WA.out _))).mono ?_; rintro e z1 ⟨rfl, rfl⟩))
        exact ⟨(((KeepsOthers.alloc _ _).trans (KeepsOthers.setCell _ _ _)).trans (KeepsOthers.setCell _ _ _)).from _, kx_parts HH.out PF.out (by rw [hh]; exact BF.out), by show Parts _ _ _ _ (puts _ (vals (pre ++ [_]))) _; rw [vals_snoc, HS2.out]; exact PF.out, HBW.out.trans (by rw [hh]; exact BF.out), by have := BF.out.size; omega, by simp; omega⟩
    · cases hw : Funion p q
      · rw [hw] at WA
        have HS2 : Hid (puts Funion (vals pre ++ [(z, p, q)]) = (R ++ [(fr, z - 1)], fr, false)) := Lib.hid (by rw [HS.out]; unfold put; simp [hw])
        clear hw HS
        have hz1' : -9223372036854775808 ≤ z - 1 := by omega
        have hz2' : z - 1 ≤ 9223372036854775807 := by omega
        have HPA := Lib.hid (HH.out.alloc (.cells #[.bool p, .bool q] 54))
        obtain ⟨v, hv, hrow, _⟩ := HPA.out.set_
        have hcv := hv.cell
        dsimp only at hrow
        have HV := Lib.hid hv
        have HROW := Lib.hid hrow
        have HCC : Hid (spCells R ++ [.int .i64 fr, .int .i64 (z - 1)] = spCells (R ++ [(fr, z - 1)])) := Lib.hid (by rw [spCells_snoc])
        have HLL : Hid (R.length + 1 = (R ++ [(fr, z - 1)]).length) := Lib.hid (by simp)
        clear hv hrow
        gi_wp2_with (first | (refine ⟨trivial, ?_⟩; gi_at_call 44; with_reducible refine (CallsIn.inRound l (callsIn_wide.2 (WA.out _))).mono ?_; rintro e z1 ⟨rfl, rfl⟩) | (gi_at_builtin; refine wpListIn_append_own _ rfl _ _ 22 rfl h 35 i0 (.agg #[.int .i64 0, .int .i64 0]) 2 16 Try.underlying22 HI.out HZ0.out HZ1.out HZ2.out rfl (by decide) _ _ _ rfl (keepB HROW.out ((Below.refl _ _).alloc (Nat.le_refl _) _)) ⟨W.heap.size + 1, 0, none⟩ 1 1 [.int .i64 fr, .int .i64 (z - 1)] rfl rfl (cells_new2q _ _ _ _ (by simp)) (by intro y hy; simp at hy; rcases hy with rfl | rfl <;> rfl) (by unfold maxLen; omega) (by omega) (by simp; omega) ?_; intro v' w1 hown' hgrow _; rw [HCC.out] at hown'; obtain ⟨g', cap', rfl⟩ := ownsRow_succ hown'; have q0 := HPA.out; have q1 := HV.out; have q2 := HROW.out; obtain ⟨hv1, pb, hk2, hb2⟩ := q0.grown q1 q2 (by simp; omega) HLL.out hown' hgrow; have hc1 := hv1.cell; have hf1 := hv1.frozen; have PB := Lib.hid pb; have BF2 := Lib.hid ((((Below.refl h W).alloc (by omega) (.cells #[.bool p, .bool q] 54)).trans hb2).setCell (p := ⟨h + 3, 0, none⟩) (by show _ ≤ h + 3; omega) (.bool false)); have HK2 := Lib.hid hk2; have HB2 := Lib.hid hb2; have o4 := pb.open_.cell; have o5 := pb.open_.frozen; clear q0 q1 q2 hown' hgrow hv1 pb hk2 hb2))
        exact ⟨(((KeepsOthers.alloc _ _).trans HK2.out).trans (KeepsOthers.setCell _ _ _)).from _, kx_parts HH.out (PB.out.open_set false) (by first | exact BF2.out | (rw [hh]; exact BF2.out)), by show Parts _ _ _ _ (puts _ (vals (pre ++ [_]))) _; rw [vals_snoc, HS2.out]; exact PB.out.open_set false, (by first | exact HBW.out.trans (by rw [hh]; exact BF2.out) | (have q := HBW.out; rw [hh] at q; exact q.trans BF2.out)), by have := HB2.out.size; simp at this ⊢; omega, by simp; omega⟩
      · rw [hw] at WA
        have HS2 : Hid (puts Funion (vals pre ++ [(z, p, q)]) = (R, fr, true)) := Lib.hid (by rw [HS.out]; unfold put; simp [hw])
        clear hw HS
        have PF := Lib.hid ((HH.out.alloc (.cells #[.bool p, .bool q] 54)).open_set true)
        have BF := Lib.hid (((Below.refl h W).alloc (by omega) (.cells #[.bool p, .bool q] 54)).setCell (p := ⟨h + 3, 0, none⟩) (by show _ ≤ h + 3; omega) (.bool true))
        gi_wp2_with (first | (refine ⟨trivial, ?_⟩; gi_at_call 44; with_reducible refine (CallsIn.inRound l (callsIn_wide.2 (WA.out _))).mono ?_; rintro e z1 ⟨rfl, rfl⟩))
        exact ⟨((KeepsOthers.alloc _ _).trans (KeepsOthers.setCell _ _ _)).from _, kx_parts HH.out PF.out (by rw [hh]; exact BF.out), by show Parts _ _ _ _ (puts _ (vals (pre ++ [_]))) _; rw [vals_snoc, HS2.out]; exact PF.out, HBW.out.trans (by rw [hh]; exact BF.out), by have := BF.out.size; omega, by simp; omega⟩
  case done =>
    rintro D ys W hD ⟨T, hrun, e1, e2⟩ ⟨hH, hB, hS6, hS7⟩ hK
    have hH' : Parts h (.func (.func 44) #[] #[]) (.slice ao m1 c1) (.slice bo m2 c2) (puts Funion (vals ys)) W := hH
    obtain ⟨v, hv, hrow, _⟩ := hH'.set_
    have hc := hv.cell
    gi_wp2
    refine ⟨by simp, .inl ⟨_, _, rfl, run_takeDeferred hK, ?_⟩⟩
    have q1 := puts_len Funion (vals ys)
    rw [vals_len] at q1
    refine ⟨_, results_tmp rfl _ _ _, v, rfl, (puts Funion (vals ys)).1, (puts_done (f := Funion) rfl ga gb hrun e1 e2).1, (puts_done (f := Funion) rfl ga gb hrun e1 e2).2, by omega, ownsRow_putObj hrow _ hK rfl, (by have q := hB.trans (belowK_b (w := w) (Nat.le_refl _) W D _ (.deferred none) (by omega) hK rfl rfl); rw [hh] at q; exact q)⟩
  case stop =>
    rintro D c pre W _ _ h' _
    exact h'.elim
end Go.Proofs.Ythjpnnggghfepaa
