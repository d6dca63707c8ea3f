/- Contracts: the document's least way. -/
import Derived.Test.YtnhbinghinlhgaaW2
import Derived.Test.YtnhbinghinlhgaaG
namespace Go.Proofs.Ytnhbinghinlhgaa
set_option linter.unusedVariables false
set_option linter.unusedSimpArgs false
open Go.ChangeShapes Go.WideShapes Go.ChangeAt Go.RowKit

/-- All blocks but one are as they were. -/
structure Kept (x : Nat) (w w' : World) : Prop where
  os : w'.os = w.os
  tape : w'.tape = w.tape
  output : w'.output = w.output
  size : w.heap.size ≤ w'.heap.size
  block : ∀ k, k < w.heap.size → k ≠ x → w'.heap[k]? = w.heap[k]?
theorem Kept.refl (x : Nat) (w : World) : Kept x w w := ⟨rfl, rfl, rfl, Nat.le_refl _, fun _ _ _ => rfl⟩
theorem Kept.trans {x : Nat} {a b c : World} (h : Kept x a b) (k : Kept x b c) : Kept x a c :=
  ⟨k.os.trans h.os, k.tape.trans h.tape, k.output.trans h.output, Nat.le_trans h.size k.size, fun i hi hx => (k.block i (Nat.lt_of_lt_of_le hi h.size) hx).trans (h.block i hi hx)⟩
theorem Kept.of {x : Nat} {a b : World} (h : Below a.heap.size a b) : Kept x a b := ⟨h.os, h.tape, h.output, h.size, fun k hk _ => h.block k hk⟩
theorem Kept.below {x : Nat} {w a b : World} (h : Kept x a b) (hx : w.heap.size ≤ x) (hw : w.heap.size ≤ a.heap.size) : Below w.heap.size a b := ⟨h.os, h.tape, h.output, h.size, fun k hk => h.block k (Nat.lt_of_lt_of_le hk hw) (by omega)⟩
theorem Kept.put {x : Nat} (w : World) (q : Nat) (v : Value) : Kept x w (w.setCell ⟨x, q, none⟩ v) :=
  ⟨rfl, rfl, rfl, by simp, fun k _ hx => Below.heap_setCell w ⟨x, q, none⟩ v k hx⟩
theorem Kept.far {x : Nat} {a w : World} (h : Kept x a w) {p : Addr} (hp : a.heap.size ≤ p.block) (v : Value) : Kept x a (w.setCell p v) :=
  ⟨h.os, h.tape, h.output, by simpa using h.size, fun k hk hx => (Below.heap_setCell w p v k (by omega)).trans (h.block k hk hx)⟩
theorem Kept.drew {x : Nat} {a w : World} (h : Kept x a w) : Kept x a w.drew := ⟨h.os, h.tape, h.output, h.size, h.block⟩
theorem Kept.alloc {x : Nat} {a w : World} (h : Kept x a w) (ob : Obj) : Kept x a (w.alloc ob) := h.trans (Kept.of ((Below.refl _ w).alloc (Nat.le_refl _) ob))
theorem kept_cell {x : Nat} {w w' : World} {a : Addr} {v : Value} (h : w.cell? a = some v) (k : Kept x w w') (hx : a.block ≠ x) : w'.cell? a = some v := by
  have hlt : a.block < w.heap.size := by
    rcases Nat.lt_or_ge a.block w.heap.size with h' | h'
    · exact h'
    · unfold World.cell? at h
      rw [Array.getElem?_eq_none h'] at h; simp at h
  rw [← h]
  unfold World.cell?
  rw [k.block a.block hlt hx]
theorem new_keep {w : World} {a : Addr} {v : Value} {ob : Obj} (h : w.cell? a = some v) : (w.alloc ob).cell? a = some v := cell_keep h ((Below.refl _ w).alloc (Nat.le_refl _) ob)
theorem far_two {w : World} {a : Addr} {v u z : Value} {q i j : Nat} (hq : q ≠ a.block) (h : w.cell? a = some v) : ((w.setCell ⟨q, i, none⟩ u).setCell ⟨q, j, none⟩ z).cell? a = some v := by
  rw [World.cell?_setCell_other _ _ _ _ (by intro e; cases e; exact hq rfl), World.cell?_setCell_other _ _ _ _ (by intro e; cases e; exact hq rfl)]; exact h
theorem kept_of {x : Nat} {w u w' : World} (h : Kept x u w') (e1 : u.os = w.os) (e2 : u.tape = w.tape) (e3 : u.output = w.output) (e4 : u.heap = w.heap) : Kept x w w' :=
  ⟨h.os.trans e1, h.tape.trans e2, h.output.trans e3, by rw [← e4]; exact h.size, fun k hk hx => by rw [← e4]; exact h.block k (by rw [e4]; exact hk) hx⟩
theorem cell_here {w : World} {a : Addr} {v : Value} (h : w.cell? a = some v) : a.block < w.heap.size := by
  rcases Nat.lt_or_ge a.block w.heap.size with h' | h'
  · exact h'
  · unfold World.cell? at h
    rw [Array.getElem?_eq_none h'] at h; simp at h
theorem kept_frozen {x : Nat} {w w' : World} {a : Addr} (hlt : a.block < w.heap.size) (k : Kept x w w') (hx : a.block ≠ x) : w'.frozen? a = w.frozen? a := World.frozen?_of_block (w := w) (k.block a.block hlt hx)
theorem NetAt.kept {x : Nat} {w w' : World} {g o n : Nat} {b p c : Nat → Nat} {M : Mat} (h : NetAt w g o n b p c M) (k : Kept x w w') (hg : g ≠ x) (hb : ∀ i, i < n → b i ≠ x) : NetAt w' g o n b p c M :=
  ⟨fun i hi => kept_cell (h.row i hi) k hg, h.cap, fun i hi => ⟨fun j hj => kept_cell ((h.cells i hi).inf j hj) k (hb i hi), fun j hj => kept_cell ((h.cells i hi).num j hj) k (hb i hi)⟩⟩
/-- What is met. -/
structure MetAt (w : World) (x n : Nat) (S : Nat → Bool) : Prop where
  cell : ∀ k, k < n → w.cell? ⟨x, k, none⟩ = some (.bool (S k))
  free : ∀ k, w.frozen? ⟨x, k, none⟩ = false
  here : x < w.heap.size
theorem MetAt.keep {w w' : World} {x n : Nat} {S : Nat → Bool} (h : MetAt w x n S) (k : Below w.heap.size w w') : MetAt w' x n S :=
  ⟨fun i hi => cell_keep (h.cell i hi) k, fun i => (k.frozen (p := ⟨x, i, none⟩) h.here).trans (h.free i), Nat.lt_of_lt_of_le h.here k.size⟩
theorem MetAt.put {w : World} {x n : Nat} {S T : Nat → Bool} (h : MetAt w x n S) (i : Nat) (hi : i < n) (v : Bool) (e : ∀ k, k < n → T k = if k = i then v else S k) : MetAt (w.setCell ⟨x, i, none⟩ (.bool v)) x n T := by
  refine ⟨fun k hk => ?_, fun k => ?_, by simpa using h.here⟩
  · rw [e k hk]
    by_cases q : k = i
    · subst q
      rw [if_pos rfl]; exact World.cell?_setCell_same _ _ _ (h.cell k hk)
    · rw [if_neg q, World.cell?_setCell_other _ _ _ _ (by intro z; cases z; exact q rfl)]
      exact h.cell k hk
  · rw [World.frozen?_setCell]; exact h.free k
/-- A bound in a box. -/
structure BoxAt (w : World) (q : Nat) (v : Bd) : Prop where
  inf : w.cell? ⟨q, 0, none⟩ = some (.int .i8 (infOf v))
  num : w.cell? ⟨q, 1, none⟩ = some (.int .i64 (numOf v))
  f0 : w.frozen? ⟨q, 0, none⟩ = false
  f1 : w.frozen? ⟨q, 1, none⟩ = false
theorem BoxAt.here {w : World} {q : Nat} {v : Bd} (h : BoxAt w q v) : q < w.heap.size := by
  rcases Nat.lt_or_ge q w.heap.size with h' | h'
  · exact h'
  · have := h.inf
    unfold World.cell? at this
    rw [Array.getElem?_eq_none (show w.heap.size ≤ (⟨q, 0, none⟩ : Addr).block from h')] at this; simp at this
theorem BoxAt.kept {x : Nat} {w w' : World} {q : Nat} {v : Bd} (h : BoxAt w q v) (k : Kept x w w') (hx : q ≠ x) : BoxAt w' q v :=
  ⟨kept_cell h.inf k hx, kept_cell h.num k hx, (kept_frozen (a := ⟨q, 0, none⟩) h.here k hx).trans h.f0, (kept_frozen (a := ⟨q, 1, none⟩) h.here k hx).trans h.f1⟩
theorem BoxAt.new (w : World) (v : Bd) : BoxAt (w.alloc (.cells #[.int .i8 (infOf v), .int .i64 (numOf v)] 26)) w.heap.size v :=
  ⟨(box_cells w _ _ 26).1, (box_cells w _ _ 26).2, box_free w _ _ 26 0 (Below.refl _ _), box_free w _ _ 26 1 (Below.refl _ _)⟩
theorem BoxAt.put {w : World} {q : Nat} {v : Bd} (h : BoxAt w q v) (u : Bd) : BoxAt (storeB w q 0 u) q u := by
  unfold storeB
  refine ⟨?_, ?_, ?_, ?_⟩
  · rw [World.cell?_setCell_other _ _ _ _ (by intro z; cases z), World.cell?_setCell_same _ _ _ h.inf]
  · exact World.cell?_setCell_same _ _ _ (u := .int .i64 (numOf v)) (by rw [World.cell?_setCell_other _ _ _ _ (by intro z; cases z)]; exact h.num)
  · rw [World.frozen?_setCell, World.frozen?_setCell]; exact h.f0
  · rw [World.frozen?_setCell, World.frozen?_setCell]; exact h.f1
theorem MetAt.far {w : World} {x n : Nat} {S : Nat → Bool} (h : MetAt w x n S) {q o : Nat} (hq : q ≠ x) (v : Value) : MetAt (w.setCell ⟨q, o, none⟩ v) x n S :=
  ⟨fun k hk => by rw [World.cell?_setCell_other _ _ _ _ (by intro z; cases z; exact hq rfl)]; exact h.cell k hk, fun k => by rw [World.frozen?_setCell]; exact h.free k, by simpa using h.here⟩
theorem BoxAt.far {w : World} {y : Nat} {v : Bd} (h : BoxAt w y v) {q o : Nat} (hq : q ≠ y) (u : Value) : BoxAt (w.setCell ⟨q, o, none⟩ u) y v :=
  ⟨by rw [World.cell?_setCell_other _ _ _ _ (by intro z; cases z; exact hq rfl)]; exact h.inf, by rw [World.cell?_setCell_other _ _ _ _ (by intro z; cases z; exact hq rfl)]; exact h.num, by rw [World.frozen?_setCell]; exact h.f0, by rw [World.frozen?_setCell]; exact h.f1⟩

theorem within_scan {S : Nat → Bool} {t : Nat} {b : Bd} {g : Nat → Bd} {Q : Int} (hb : Bd.within Q b) : ∀ n, (∀ k, k < n → S k = false → k ≠ t → Bd.within Q (g k)) → Bd.within Q (scan S t b g n)
  | 0, _ => hb
  | n + 1, h => by
    unfold scan
    have i := within_scan (S := S) (t := t) (g := g) hb n (fun k hk => h k (by omega))
    split
    · exact i
    · rename_i q
      exact Bd.within_low i (h n (by omega) (by cases hs : S n; rfl; exact absurd (.inl hs) q) (fun e => q (.inr e)))
theorem within_sum {A B : Int} {a b : Bd} (h : Bd.within A a) (k : Bd.within B b) : Bd.within (A + B) (Bd.add a b) := by
  cases a <;> cases b <;> simp [Bd.within, Bd.add] at *; omega
theorem within_lst {n : Nat} {Q : Int} {M : Mat} (hQ : 0 ≤ Q) (h : Within n Q M) : ∀ (f : Nat) (S : Nat → Bool) (u t : Nat), u < n → t < n → Bd.within (((f : Int) + 1) * Q) (lst n M f S u t)
  | 0, S, u, t, hu, ht => by
    show Bd.within _ (M u t)
    simpa using h u t hu ht
  | f + 1, S, u, t, hu, ht => by
    have e : ((((f + 1 : Nat) : Int) + 1) * Q) = Q + ((f : Int) + 1) * Q := by rw [show (((f + 1 : Nat) : Int) + 1) = 1 + ((f : Int) + 1) by omega, Int.add_mul, Int.one_mul]
    have p : 0 ≤ ((f : Int) + 1) * Q := Int.mul_nonneg (by omega) hQ
    refine within_scan (Bd.within_mono (by rw [e]; omega) (h u t hu ht)) n (fun k hk _ _ => ?_)
    rw [e]
    exact within_sum (h u k hu hk) (within_lst hQ h f _ k t hk ht)
def LeastSaid (x n : Nat) (S : Nat → Bool) (v : Bd) (w : World) (e : Ending) (w' : World) : Prop :=
  e = .returned (.agg #[.int .i8 (infOf v), .int .i64 (numOf v)]) ∧ Hid (Kept x w w') ∧ Hid (MetAt w' x n S)
set_option maxRecDepth 100000 in
set_option maxHeartbeats 4000000 in
theorem least_net (g o n k x : Nat) (b p c : Nat → Nat) (M : Mat) (hn : n ≤ 24) (hk : n ≤ k) (hk' : k ≤ 9223372036854775807) (hM : Fits n M) (hg : g ≠ x) (hb : ∀ i, i < n → b i ≠ x) : ∀ (f : Nat) (S : Nat → Bool) (u t : Nat) (w : World), cnt S n < f → f ≤ n → u < n → t < n → NetAt w g o n b p c M → MetAt w x n S →
    Calls Try.prog 38 #[.slice (some ⟨g, o, none⟩) n k, .int .i64 u, .int .i64 t, .slice (some ⟨x, 0, none⟩) n n] w fun e w' => LeastSaid x n S (lst n M f S u t) w e w'
  | 0, S, u, t, w, hc, _, _, _, _, _ => absurd hc (Nat.not_lt_zero _)
  | f + 1, S, u, t, w, hc, hf, hu, ht, hw, hm => by
    have IH := Lib.hid (fun (S : Nat → Bool) (u : Nat) (w : World) hc hu hw hm => least_net g o n k x b p c M hn hk hk' hM hg hb f S u t w hc (by omega) hu ht hw hm)
    have HC := Lib.hid hc
    have HW := Lib.hid hw
    have HM := Lib.hid hm
    have HX := Lib.hid hm.here
    have HF := Lib.hid hM
    have HG := Lib.hid hg
    have HBX := Lib.hid hb
    have u0 : (0 : Int) ≤ (u : Int) := by omega
    have u1 : (u : Int) < (n : Int) := by omega
    have t0 : (0 : Int) ≤ (t : Int) := by omega
    have t1 : (t : Int) < (n : Int) := by omega
    have c1 := hw.row u hu
    have c2 := (hw.cells u hu).inf t ht
    have c3 := (hw.cells u hu).num t ht
    generalize hbu : b u = bu at *
    generalize hpu : p u = pu at *
    generalize hcu : c u = cu at *
    obtain ⟨x1, hx1⟩ : ∃ q, infOf (M u t) = q := ⟨_, rfl⟩
    obtain ⟨y1, hy1⟩ : ∃ q, numOf (M u t) = q := ⟨_, rfl⟩
    rw [hx1] at c2
    rw [hy1] at c3
    clear hc hm hM hg hb hw
    go_enter Try.func38, Try.ntmps38
    have K1 := (Below.refl _ w).alloc (Nat.le_refl _) (.cells #[.int .i8 0, .int .i64 0] 26)
    have B1 := Lib.hid (BoxAt.new w (some 0))
    have HB1 := Lib.hid K1
    replace c1 := cell_keep c1 K1
    replace c2 := cell_keep c2 K1
    replace c3 := cell_keep c3 K1
    clear K1
    have HX1 := Lib.hid hx1
    have HY1 := Lib.hid hy1
    have HP := Lib.hid (And.intro hbu (And.intro hpu hcu))
    clear hx1 hy1 hbu hpu hcu
    go_upto_region 3 with fail
    have B2 := BoxAt.new (w.alloc (.cells #[.int .i8 0, .int .i64 0] 26)) (M u t)
    rw [HX1.out, HY1.out] at B2
    have K2 := HB1.out.trans (((Below.refl _ (w.alloc (.cells #[.int .i8 0, .int .i64 0] 26))).alloc (Nat.le_refl _) (.cells #[.int .i8 x1, .int .i64 y1] 26)).mono (by simp))
    have B8 := Lib.hid (B1.out.kept (Kept.of (x := x) ((Below.refl _ (w.alloc (.cells #[.int .i8 0, .int .i64 0] 26))).alloc (Nat.le_refl _) (.cells #[.int .i8 x1, .int .i64 y1] 26))) (by have := HX.out; omega))
    have M2 := Lib.hid (HM.out.keep K2)
    have q8 : (w.alloc (.cells #[.int .i8 0, .int .i64 0] 26)).heap.size = w.heap.size + 1 := by simp
    rw [q8] at B2
    have HQ := Lib.hid (show w.heap.size ≠ x ∧ w.heap.size + 1 ≠ x ∧ w.heap.size ≠ w.heap.size + 1 ∧ w.heap.size ≤ w.heap.size ∧ w.heap.size ≤ w.heap.size + 1 by have := HX.out; omega)
    have B9 := Lib.hid B2
    have HK := Lib.hid (Kept.of (x := x) K2)
    have B8 : Hid (BoxAt ((w.alloc (.cells #[.int .i8 0, .int .i64 0] 26)).alloc (.cells #[.int .i8 x1, .int .i64 y1] 26)) w.heap.size (some 0)) := B8
    clear B1 B2 K2 c1 c2 c3 q8 HM HB1
    obtain ⟨w1, hw1⟩ : ∃ q, (w.alloc (.cells #[.int .i8 0, .int .i64 0] 26)).alloc (.cells #[.int .i8 x1, .int .i64 y1] 26) = q := ⟨_, rfl⟩
    obtain ⟨p8, hp8⟩ : ∃ q, w.heap.size = q := ⟨_, rfl⟩
    obtain ⟨p9, hp9⟩ : ∃ q, w.heap.size + 1 = q := ⟨_, rfl⟩
    have HQ2 : Hid (p8 ≠ x ∧ p9 ≠ x ∧ p8 ≠ p9 ∧ w.heap.size ≤ p8 ∧ w.heap.size ≤ p9) := by rw [← hp8, ← hp9]; exact HQ
    rw [hp8, hw1] at B8
    rw [hp9, hw1] at B9
    rw [hw1] at M2 HK ⊢
    rw [hp9]
    rw [hp8]
    clear hw1 hp8 hp9 HQ HX
    have HW1 := Lib.hid (HW.out.kept HK.out HG.out HBX.out)
    go_loopw [10] (fun ii wr => ∃ i : Nat, i ≤ n ∧ ii = .int .i64 i ∧ Hid (BoxAt wr p8 (some 0)) ∧ Hid (BoxAt wr p9 (scan S t (M u t) (fun k => Bd.add (M u k) (lst n M f (meet S k) k t)) i)) ∧ Hid (Kept x w wr) ∧ Hid (MetAt wr x n S)) (fun ii _ => n - (intOf ii).toNat)
    case atStart => exact ⟨0, Nat.zero_le _, rfl, B8, B9, HK, M2⟩
    case round =>
      clear B8 B9 HK M2 HW1
      obtain ⟨i, hi, rfl, B8, B9, HK, HM⟩ := hrel
      by_cases ilt : i < n
      · have i0 : (0 : Int) ≤ (i : Int) := by omega
        have i1 : (i : Int) < (n : Int) := by omega
        have m1 := HM.out.cell i ilt
        have m2 := HM.out.free i
        cases hs : S i
        · by_cases hit : i = t
          · subst hit
            have HE : Hid (scan S i (M u i) (fun k => Bd.add (M u k) (lst n M f (meet S k) k i)) (i + 1) = scan S i (M u i) (fun k => Bd.add (M u k) (lst n M f (meet S k) k i)) i) := Lib.hid (if_pos (.inr rfl))
            rw [hs] at m1
            clear hs
            go_wp2
            go_roundw
            case rel => exact ⟨i + 1, by omega, by go_num, B8, by rw [HE.out]; exact B9, HK, HM⟩
            case measure => simp [intOf]; omega
          · have e1 : ((i : Int) == (t : Int)) = false := by simp; omega
            have HE : Hid (scan S t (M u t) (fun k => Bd.add (M u k) (lst n M f (meet S k) k t)) (i + 1) = Bd.low (scan S t (M u t) (fun k => Bd.add (M u k) (lst n M f (meet S k) k t)) i) (Bd.add (M u i) (lst n M f (meet S i) i t))) := Lib.hid (if_neg (by rw [hs]; simp [hit]))
            rw [hs] at m1
            have HS := Lib.hid hs
            clear hs
            go_upto_region 7 with fail
            have KP := Kept.put (x := x) wr i (.bool true)
            have HK6 := Lib.hid (HK.out.trans KP)
            have B86 := Lib.hid (B8.out.kept KP HQ2.out.1)
            have B96 := Lib.hid (B9.out.kept KP HQ2.out.2.1)
            have M6 := Lib.hid (HM.out.put i ilt true (T := meet S i) (fun k hk => rfl))
            have W6 := Lib.hid ((HW.out.kept HK.out HG.out HBX.out).kept KP HG.out HBX.out)
            clear KP B8 B9 HM HK m1 m2
            generalize (wr.setCell ⟨x, i, none⟩ (.bool true)) = w6 at *
            have d1 := W6.out.row u hu
            have d2 := (W6.out.cells u hu).inf i ilt
            have d3 := (W6.out.cells u hu).num i ilt
            rw [HP.out.1, HP.out.2.1, HP.out.2.2] at d1
            rw [HP.out.1, HP.out.2.1] at d2 d3
            have HBU := Lib.hid (show bu ≠ x by rw [← HP.out.1]; exact HBX.out u hu)
            have HL := Lib.hid (show cnt (meet S i) n < f by have := cnt_meet S i HS.out n ilt; have := HC.out; omega)
            have CL := Lib.hid (fun (w' : World) (hb : Below w6.heap.size w6 w') => IH.out (meet S i) i w' HL.out ilt (W6.out.keep hb) (M6.out.keep hb))
            have SM := Lib.hid (rsum_enc (M u i) (lst n M f (meet S i) i t) (Bd.within_mono (by omega) (within_sum (HF.out u i hu ilt) (within_lst (by decide) HF.out f (meet S i) i t ilt ht))))
            obtain ⟨x2, hx2⟩ : ∃ q, infOf (M u i) = q := ⟨_, rfl⟩
            obtain ⟨y2, hy2⟩ : ∃ q, numOf (M u i) = q := ⟨_, rfl⟩
            obtain ⟨sm, hsm⟩ : ∃ q, Bd.add (M u i) (lst n M f (meet S i) i t) = q := ⟨_, rfl⟩
            rw [hx2] at d2
            rw [hy2] at d3
            rw [hx2, hy2, hsm] at SM
            rw [hsm] at HE
            obtain ⟨sx, hsx⟩ : ∃ q, infOf sm = q := ⟨_, rfl⟩
            obtain ⟨sy, hsy⟩ : ∃ q, numOf sm = q := ⟨_, rfl⟩
            obtain ⟨rr, hrr⟩ : ∃ q, lst n M f (meet S i) i t = q := ⟨_, rfl⟩
            obtain ⟨rx, hrx⟩ : ∃ q, infOf rr = q := ⟨_, rfl⟩
            obtain ⟨ry, hry⟩ : ∃ q, numOf rr = q := ⟨_, rfl⟩
            have CL2 : Hid (∀ (w' : World), Below w6.heap.size w6 w' → Calls Try.prog 38 #[.slice (some ⟨g, o, none⟩) n k, .int .i64 i, .int .i64 t, .slice (some ⟨x, 0, none⟩) n n] w' fun e w'' => e = .returned (.agg #[.int .i8 rx, .int .i64 ry]) ∧ Hid (Kept x w' w'') ∧ Hid (MetAt w'' x n (meet S i))) := by
              rw [← hrx, ← hry, ← hrr]; exact CL
            rw [hrr, hrx, hry, hsx, hsy] at SM
            have HSX := Lib.hid hsx
            have HSY := Lib.hid hsy
            clear hx2 hy2 hsm hsx hsy hrr hrx hry CL HL
            have HS2 := Lib.hid HS.out
            clear HS
            go_cut [11] (fun s11 wx => ∃ bx : Nat, s11 = .pointer (some ⟨bx, 0, none⟩) ∧ Hid (wx.cell? ⟨bx, 0, none⟩ = some (.int .i8 sx) ∧ wx.cell? ⟨bx, 1, none⟩ = some (.int .i64 sy)) ∧ Hid (Kept x w6 wx) ∧ Hid (MetAt wx x n (meet S i)))
            case first =>
              have n3 := World.new_ne w6 _ d1
              have n4 := World.new_ne w6 _ d2
              have nw : w6.heap.size ≠ x := by have := M6.out.here; omega
              go_region_held3 (fun w' => w'.cell? ⟨g, o + u, none⟩ = some (.slice (some ⟨bu, pu, none⟩) n cu) ∧ w'.cell? ⟨bu, pu + i * 2, none⟩ = some (.int .i8 x2) ∧ w'.cell? ⟨bu, pu + i * 2 + 1, none⟩ = some (.int .i64 y2)) (first | go_keep | exact ⟨z1, z2, z3⟩ | exact ⟨far_two n3 (cell_keep z1 b7), far_two n4 (cell_keep z2 b7), far_two n4 (cell_keep z3 b7)⟩ | exact ⟨far_two n1 (cell_keep (new_keep z1) b7), far_two n2 (cell_keep (new_keep z2) b7), far_two n2 (cell_keep (new_keep z3) b7)⟩ | exact ⟨cell_keep z1 b7, cell_keep z2 b7, cell_keep z3 b7⟩ | exact ⟨cell_keep (new_keep z1) b7, cell_keep (new_keep z2) b7, cell_keep (new_keep z3) b7⟩ | exact ⟨new_keep (cell_keep z1 b7), new_keep (cell_keep z2 b7), new_keep (cell_keep z3 b7)⟩ | fail)
                (first
                 | (go_at_call 38; (with_reducible refine (CL2.out _ (by go_grown)).mono ?_); rintro e w5 ⟨rfl, K5, M5⟩; have K6 := Lib.hid (Kept.trans (Kept.of (x := x) (show Below w6.heap.size w6 _ from by go_grown)) K5.out); have z1 := kept_cell d1 K6.out HG.out; have z2 := kept_cell d2 K6.out HBU.out; have z3 := kept_cell d3 K6.out HBU.out; have n1 := World.new_ne w5 _ z1; have n2 := World.new_ne w5 _ z2; (try have K5b := kept_of (w := w6.alloc (.cells #[.int .i8 0, .int .i64 0] 26)) K5.out rfl rfl rfl rfl); (try have r1 := kept_cell (box_cells w6 (.int .i8 0) (.int .i64 0) 26).1 K5b nw); (try have r2 := kept_cell (box_cells w6 (.int .i8 0) (.int .i64 0) 26).2 K5b nw); (try have r3 := (kept_frozen (a := ⟨w6.heap.size, 0, none⟩) (by simp) K5b nw).trans (box_free w6 (.int .i8 0) (.int .i64 0) 26 0 (Below.refl _ _))); (try have r4 := (kept_frozen (a := ⟨w6.heap.size, 1, none⟩) (by simp) K5b nw).trans (box_free w6 (.int .i8 0) (.int .i64 0) 26 1 (Below.refl _ _))); (try clear K5b); clear K5)
                 | (go_at_call 40; (with_reducible refine (SM.out _).mono ?_); rintro e w7 ⟨rfl, b7⟩; (try have q1 := cell_keep (box_cells w5 (.int .i8 0) (.int .i64 0) 26).1 b7); (try have q2 := cell_keep (box_cells w5 (.int .i8 0) (.int .i64 0) 26).2 b7); (try have q3 := box_free w5 (.int .i8 0) (.int .i64 0) 26 0 b7); (try have q4 := box_free w5 (.int .i8 0) (.int .i64 0) 26 1 b7); (try have r5 := cell_keep r1 b7); (try have r6 := cell_keep r2 b7); (try have r7 := (b7.frozen (p := ⟨w6.heap.size, 0, none⟩) (cell_here r1)).trans r3); (try have r8 := (b7.frozen (p := ⟨w6.heap.size, 1, none⟩) (cell_here r2)).trans r4)))
              · have K7 := (K6.out.trans (Kept.of b7)).alloc (.cells #[.int .i8 sx, .int .i64 sy] 26)
                have M7 := (M5.out.keep b7).keep ((Below.refl _ w7).alloc (Nat.le_refl _) (.cells #[.int .i8 sx, .int .i64 sy] 26))
                go_wp2_with fail
                go_meet
                exact ⟨w7.heap.size, rfl, Lib.hid (box_cells w7 _ _ 26), Lib.hid K7, Lib.hid M7⟩
              · have K7 := ((K6.out.alloc (.cells #[.int .i8 0, .int .i64 0] 26)).trans (Kept.of b7))
                have K8 := (K7.far (p := ⟨w5.heap.size, 0, none⟩) K6.out.size (.int .i8 sx)).far (p := ⟨w5.heap.size, 1, none⟩) K6.out.size (.int .i64 sy)
                have nx5 : w5.heap.size ≠ x := by have := M5.out.here; omega
                have M7 := (((M5.out.keep ((Below.refl _ w5).alloc (Nat.le_refl _) (.cells #[.int .i8 0, .int .i64 0] 26))).keep b7).far (o := 0) nx5 (.int .i8 sx)).far (o := 1) nx5 (.int .i64 sy)
                have E := Lib.hid (box_two (x := .int .i8 sx) (y := .int .i64 sy) q1 q2)
                clear q1 q2 q3 q4
                go_wp2_with fail
                go_meet
                exact ⟨w5.heap.size, rfl, E, Lib.hid K8, Lib.hid M7⟩
              · have K7 := K6.out.trans (Kept.of b7)
                have K8 := (K7.far (p := ⟨w6.heap.size, 0, none⟩) (Nat.le_refl _) (.int .i8 sx)).far (p := ⟨w6.heap.size, 1, none⟩) (Nat.le_refl _) (.int .i64 sy)
                have M7 := ((M5.out.keep b7).far (o := 0) nw (.int .i8 sx)).far (o := 1) nw (.int .i64 sy)
                have E := Lib.hid (box_two (x := .int .i8 sx) (y := .int .i64 sy) r5 r6)
                clear r1 r2 r3 r4 r5 r6 r7 r8
                go_wp2_with fail
                go_meet
                exact ⟨w6.heap.size, rfl, E, Lib.hid K8, Lib.hid M7⟩
            case rest =>
            obtain ⟨bx, rfl, HBX2, HK7, M7⟩ := hcut
            have B87 := Lib.hid (B86.out.kept HK7.out HQ2.out.1)
            have B97 := Lib.hid (B96.out.kept HK7.out HQ2.out.2.1)
            have HKW := Lib.hid (HK6.out.trans HK7.out)
            obtain ⟨bs, hbs⟩ : ∃ q, scan S t (M u t) (fun k => Bd.add (M u k) (lst n M f (meet S k) k t)) i = q := ⟨_, rfl⟩
            rw [hbs] at B97 HE
            have HBS := Lib.hid hbs
            clear hbs B86 B96 HK6 HK7 M6 W6 d1 d2 d3 SM CL2
            have q1 := HBX2.out.1
            have q2 := HBX2.out.2
            have q3 := B97.out.inf
            have q4 := B97.out.num
            have L0 := below_enc sm bs
            rw [HSX.out, HSY.out] at L0
            obtain ⟨ux, hux⟩ : ∃ q, infOf bs = q := ⟨_, rfl⟩
            obtain ⟨uy, huy⟩ : ∃ q, numOf bs = q := ⟨_, rfl⟩
            rw [hux, huy] at L0
            rw [hux] at q3
            rw [huy] at q4
            clear hux huy
            cases hlt : Bd.lt sm bs
            · have HE2 : Hid (bs = scan S t (M u t) (fun k => Bd.add (M u k) (lst n M f (meet S k) k t)) (i + 1)) := Lib.hid (by rw [HE.out]; unfold Bd.low; rw [hlt]; rfl)
              rw [hlt] at L0
              have L := Lib.hid L0
              clear L0 hlt HBX2
              go_wp2_with (go_at_call 31; (with_reducible refine (L.out _).mono ?_); rintro e w8 ⟨rfl, b8⟩; have HB8 := Lib.hid b8; have M8 := Lib.hid (M7.out.keep b8); have m1 := M8.out.cell i ilt; have m2 := M8.out.free i; clear b8)
              have HK8 := Lib.hid (HKW.out.trans (Kept.of HB8.out))
              have B88 := Lib.hid ((B87.out.kept (Kept.of (x := x) HB8.out) HQ2.out.1).kept (Kept.put w8 i (.bool false)) HQ2.out.1)
              have B98 := Lib.hid ((B97.out.kept (Kept.of (x := x) HB8.out) HQ2.out.2.1).kept (Kept.put w8 i (.bool false)) HQ2.out.2.1)
              have M9 := Lib.hid (M8.out.put i ilt false (T := S) (fun k hk => by
                unfold meet
                by_cases q : k = i
                · subst q; rw [if_pos rfl]; exact HS2.out
                · rw [if_neg q, if_neg q]))
              have HK9 := Lib.hid (HK8.out.trans (Kept.put w8 i (.bool false)))
              go_roundw
              case rel => exact ⟨i + 1, by omega, by go_num, B88, by rw [← HE2.out]; exact B98, HK9, M9⟩
              case measure => simp [intOf]; omega
            · have HE2 : Hid (sm = scan S t (M u t) (fun k => Bd.add (M u k) (lst n M f (meet S k) k t)) (i + 1)) := Lib.hid (by rw [HE.out]; unfold Bd.low; rw [hlt]; rfl)
              rw [hlt] at L0
              have L := Lib.hid L0
              clear L0 hlt HBX2
              have nx : p9 ≠ x := HQ2.out.2.1
              go_wp2_with (go_at_call 31; (with_reducible refine (L.out _).mono ?_); rintro e w8 ⟨rfl, b8⟩; have HB8 := Lib.hid b8; have M8 := Lib.hid (M7.out.keep b8); have m1 := M8.out.cell i ilt; have m2 := M8.out.free i; have q5 := cell_keep q1 b8; have q6 := cell_keep q2 b8; have q7 := (B97.out.kept (Kept.of (x := x) b8) HQ2.out.2.1).inf; have q8 := (B97.out.kept (Kept.of (x := x) b8) HQ2.out.2.1).num; have q9 := (B97.out.kept (Kept.of (x := x) b8) HQ2.out.2.1).f0; have q10 := (B97.out.kept (Kept.of (x := x) b8) HQ2.out.2.1).f1; clear b8)
              have HK8 := HKW.out.trans (Kept.of HB8.out)
              have hst : (w8.setCell ⟨p9, 0, none⟩ (.int .i8 sx)).setCell ⟨p9, 1, none⟩ (.int .i64 sy) = storeB w8 p9 0 sm := by unfold storeB; rw [HSX.out, HSY.out]
              have HKs : Kept x w (storeB w8 p9 0 sm) := by rw [← hst]; exact (HK8.far (p := ⟨p9, 0, none⟩) HQ2.out.2.2.2.2 _).far (p := ⟨p9, 1, none⟩) HQ2.out.2.2.2.2 _
              have B88 : BoxAt (storeB w8 p9 0 sm) p8 (some 0) := by rw [← hst]; exact ((B87.out.kept (Kept.of (x := x) HB8.out) HQ2.out.1).far (Ne.symm HQ2.out.2.2.1) _).far (Ne.symm HQ2.out.2.2.1) _
              have B98 : BoxAt (storeB w8 p9 0 sm) p9 sm := (B97.out.kept (Kept.of (x := x) HB8.out) HQ2.out.2.1).put sm
              have M9 : MetAt (storeB w8 p9 0 sm) x n (meet S i) := by rw [← hst]; exact (M8.out.far nx _).far nx _
              rw [hst]
              have HBa := Lib.hid (B88.kept (Kept.put _ i (.bool false)) HQ2.out.1)
              have HBb := Lib.hid (B98.kept (Kept.put _ i (.bool false)) HQ2.out.2.1)
              have HKc := Lib.hid (HKs.trans (Kept.put _ i (.bool false)))
              have HMd := Lib.hid (M9.put i ilt false (T := S) (fun k hk => by
                unfold meet
                by_cases q : k = i
                · subst q; rw [if_pos rfl]; exact HS2.out
                · rw [if_neg q, if_neg q]))
              clear hst HKs B88 B98 M9 HK8
              go_roundw
              case rel => exact ⟨i + 1, by omega, by go_num, HBa, by rw [← HE2.out]; exact HBb, HKc, HMd⟩
              case measure => simp [intOf]; omega
        · have HE : Hid (scan S t (M u t) (fun k => Bd.add (M u k) (lst n M f (meet S k) k t)) (i + 1) = scan S t (M u t) (fun k => Bd.add (M u k) (lst n M f (meet S k) k t)) i) := Lib.hid (if_pos (.inl hs))
          rw [hs] at m1
          clear hs
          go_wp2
          go_roundw
          case rel => exact ⟨i + 1, by omega, by go_num, B8, by rw [HE.out]; exact B9, HK, HM⟩
          case measure => simp [intOf]; omega
      · have HE : Hid (scan S t (M u t) (fun k => Bd.add (M u k) (lst n M f (meet S k) k t)) i = lst n M (f + 1) S u t) := Lib.hid (by rw [show i = n by omega]; rfl)
        have q1 := B9.out.inf
        have q2 := B9.out.num
        have q3 := B8.out.inf
        have q4 := B8.out.num
        have q5 := B8.out.f0
        have q6 := B8.out.f1
        rw [HE.out] at q1 q2
        obtain ⟨R, hRR⟩ : ∃ q, lst n M (f + 1) S u t = q := ⟨_, rfl⟩
        rw [hRR] at q1 q2
        obtain ⟨rx, hrx⟩ : ∃ q, infOf R = q := ⟨_, rfl⟩
        obtain ⟨ry, hry⟩ : ∃ q, numOf R = q := ⟨_, rfl⟩
        rw [hrx] at q1
        rw [hry] at q2
        have HRR := Lib.hid hRR
        clear hRR
        have HR := Lib.hid (And.intro hrx hry)
        clear hrx hry
        have HRes := Lib.hid ((HK.out.far (p := ⟨p8, 0, none⟩) HQ2.out.2.2.2.1 (.int .i8 rx)).far (p := ⟨p8, 1, none⟩) HQ2.out.2.2.2.1 (.int .i64 ry))
        have HMes := Lib.hid ((HM.out.far (o := 0) HQ2.out.1 (.int .i8 rx)).far (o := 1) HQ2.out.1 (.int .i64 ry))
        go_wp2
        refine bodyPost_ret (v := .agg #[.int .i8 rx, .int .i64 ry]) (by simp [results, Try.results38, go_sem, q3, q4]) rfl ?_
        refine ⟨?_, HRes, HMes⟩
        rw [HRR.out, HR.out.1, HR.out.2]
end Go.Proofs.Ytnhbinghinlhgaa
