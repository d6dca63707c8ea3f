/- Contracts: a network copied. -/
import Derived.Test.YtnhbinghinlhgaaC
namespace Go.Proofs.Ytnhbinghinlhgaa
set_option linter.unusedVariables false
set_option linter.unusedSimpArgs false
open Go.ChangeShapes Go.WideShapes Go.ChangeAt Go.RowKit

theorem cell_other {w : World} {a b : Addr} {v : Value} (h : a ≠ b) : (w.setCell a v).cell? b = w.cell? b := World.cell?_setCell_other (h := h) ..
theorem cell_same {w : World} {a : Addr} {u v : Value} (h : w.cell? a = some u) : (w.setCell a v).cell? a = some v := World.cell?_setCell_same (h := h) ..
theorem free_keep {w w' : World} {b : Nat} (h : ∀ k, w.frozen? ⟨b, k, none⟩ = false) (hb : b < w.heap.size) (k : Below w.heap.size w w') : ∀ k, w'.frozen? ⟨b, k, none⟩ = false :=
  fun j => (k.frozen (p := ⟨b, j, none⟩) hb).trans (h j)

/-- A network of the call's own: its rows lie in blocks of their own, from B on. -/
structure NetOwn (w : World) (B g o n : Nat) (b p c : Nat → Nat) (M : Mat) : Prop where
  net : NetAt w g o n b p c M
  lo : B ≤ g
  hi : g < w.heap.size
  low : ∀ i, i < n → B ≤ b i
  high : ∀ i, i < n → b i < w.heap.size
  free : ∀ i, i < n → ∀ k, w.frozen? ⟨b i, k, none⟩ = false
  ne : ∀ i, i < n → b i ≠ g
  inj : ∀ i j, i < n → j < n → b i = b j → i = j
theorem NetOwn.keep {w w' : World} {B g o n : Nat} {b p c : Nat → Nat} {M : Mat} (h : NetOwn w B g o n b p c M) (k : Below w.heap.size w w') : NetOwn w' B g o n b p c M :=
  ⟨h.net.keep k, h.lo, Nat.lt_of_lt_of_le h.hi k.size, h.low, fun i hi => Nat.lt_of_lt_of_le (h.high i hi) k.size, fun i hi => free_keep (h.free i hi) (h.high i hi) k, h.ne, h.inj⟩

/-- A network that has been made: its value, and where it lies. -/
def Made (w w' : World) (n : Nat) (M : Mat) (e : Ending) : Prop :=
  ∃ g o k b p c, e = .returned (.slice (some ⟨g, o, none⟩) n k) ∧ n ≤ k ∧ k ≤ 9223372036854775807 ∧ Hid (NetOwn w' w.heap.size g o n b p c M) ∧ Hid (Below w.heap.size w w')

/-- Rows, so far. -/
def Part (w wr : World) (n i : Nat) (M : Mat) : Prop := ∃ b c : Nat → Nat,
  (∀ t, t < i → wr.cell? ⟨w.heap.size, t, none⟩ = some (.slice (some ⟨b t, 0, none⟩) n (c t))) ∧
  (∀ t, t < n → ∃ v, wr.cell? ⟨w.heap.size, t, none⟩ = some v) ∧ (∀ t, wr.frozen? ⟨w.heap.size, t, none⟩ = false) ∧
  (∀ t, t < i → (n ≤ c t ∧ c t ≤ 9223372036854775807) ∧ RowAt wr (b t) 0 n (M t) ∧ w.heap.size < b t ∧ b t < wr.heap.size ∧ ∀ k, wr.frozen? ⟨b t, k, none⟩ = false) ∧
  (∀ s t, s < i → t < i → b s = b t → s = t) ∧ Below w.heap.size w wr ∧ w.heap.size < wr.heap.size

theorem part_done {w wr : World} {n : Nat} {M : Mat} (h : Part w wr n n M) : ∃ b c, NetOwn wr w.heap.size w.heap.size 0 n b (fun _ => 0) c M := by
  obtain ⟨b, c, h1, h2, h3, h4, h5, h6, h7⟩ := h
  exact ⟨b, c, ⟨fun i hi => by rw [Nat.zero_add]; exact h1 i hi, fun i hi => (h4 i hi).1, fun i hi => (h4 i hi).2.1⟩, Nat.le_refl _, h7, fun i hi => Nat.le_of_lt (h4 i hi).2.2.1, fun i hi => (h4 i hi).2.2.2.1, fun i hi => (h4 i hi).2.2.2.2, fun i hi => Nat.ne_of_gt (h4 i hi).2.2.1, h5⟩

theorem RowAt.set_far {w : World} {b p n : Nat} {r : Nat → Bd} (h : RowAt w b p n r) (g t : Nat) (v : Value) (hne : b ≠ g) : RowAt (w.setCell ⟨g, t, none⟩ v) b p n r :=
  ⟨fun j hj => by rw [cell_other (fun e => hne (by cases e; rfl))]; exact h.inf j hj, fun j hj => by rw [cell_other (fun e => hne (by cases e; rfl))]; exact h.num j hj⟩

/-- One row more. -/
theorem part_step {w wr w1 : World} {n i : Nat} {M : Mat} (h : Part w wr n i M) (hi : i < n) (g cap : Nat) (B1 : Below wr.heap.size wr w1)
    (hr : RowAt w1 g 0 n (M i) ∧ wr.heap.size ≤ g ∧ g < w1.heap.size ∧ n ≤ cap ∧ cap ≤ 9223372036854775807 ∧ ∀ k, w1.frozen? ⟨g, k, none⟩ = false) :
    Part w (w1.setCell ⟨w.heap.size, i, none⟩ (.slice (some ⟨g, 0, none⟩) n cap)) n (i + 1) M := by
  obtain ⟨b, c, h1, h2, h3, h4, h5, h6, h7⟩ := h
  obtain ⟨r1, r2, r3, r4, r5, r6⟩ := hr
  have old : ∀ t, t < n → ∃ v, w1.cell? ⟨w.heap.size, t, none⟩ = some v := fun t ht => by
    obtain ⟨v, hv⟩ := h2 t ht
    exact ⟨v, cell_keep hv B1⟩
  have bd : ∀ t, t < i → b t < g := fun t ht => Nat.lt_of_lt_of_le (h4 t ht).2.2.2.1 r2
  refine ⟨fun t => if t = i then g else b t, fun t => if t = i then cap else c t, fun t ht => ?_, fun t ht => ?_, fun t => ?_, fun t ht => ?_, fun s t hs ht e => ?_, ?_, ?_⟩
  · by_cases q : t = i
    · subst q
      simp only [if_true]
      obtain ⟨v, hv⟩ := old t hi
      exact cell_same hv
    · simp only [if_neg q]
      rw [cell_other (fun e => q (by cases e; rfl))]
      exact cell_keep (h1 t (by omega)) B1
  · obtain ⟨v, hv⟩ := old t ht
    by_cases q : t = i
    · subst q
      exact ⟨_, cell_same hv⟩
    · exact ⟨v, by rw [cell_other (fun e => q (by cases e; rfl))]; exact hv⟩
  · rw [World.frozen?_setCell]
    exact (B1.frozen (p := ⟨w.heap.size, t, none⟩) h7).trans (h3 t)
  · by_cases q : t = i
    · subst q
      simp only [if_true]
      refine ⟨⟨r4, r5⟩, r1.set_far _ _ _ (by omega), by omega, ?_, fun k => by rw [World.frozen?_setCell]; exact r6 k⟩
      simpa [World.setCell] using r3
    · simp only [if_neg q]
      obtain ⟨q1, q2, q3, q4, q5⟩ := h4 t (by omega)
      refine ⟨q1, (q2.keep B1).set_far _ _ _ (by omega), q3, ?_, fun k => by rw [World.frozen?_setCell]; exact free_keep q5 q4 B1 k⟩
      have : w1.heap.size = (w1.setCell ⟨w.heap.size, i, none⟩ (.slice (some ⟨g, 0, none⟩) n cap)).heap.size := by simp [World.setCell]
      omega
  · by_cases q : s = i
    · by_cases q' : t = i
      · omega
      · simp only [if_pos q, if_neg q'] at e
        have := bd t (by omega)
        omega
    · by_cases q' : t = i
      · simp only [if_neg q, if_pos q'] at e
        have := bd s (by omega)
        omega
      · simp only [if_neg q, if_neg q'] at e
        exact h5 s t (by omega) (by omega) e
  · exact (h6.trans (B1.mono h6.size)).setCell (Nat.le_refl _) _
  · have : w1.heap.size = (w1.setCell ⟨w.heap.size, i, none⟩ (.slice (some ⟨g, 0, none⟩) n cap)).heap.size := by simp [World.setCell]
    have := B1.size
    omega

theorem info30 : (Try.prog.info? 30).map (fun i => (i.zero, i.size, i.bytes)) = some (some (.slice none 0 0), 1, 24) := by kernel_rfl
/-- A block of rows that has just been made. -/
theorem part_zero {w w1 : World} {n : Nat} {M : Mat} {xs : List Value} (h : w1.ownsRow w.heap.size 30 1 (.slice (some ⟨w.heap.size, 0, none⟩) n n) n xs) (hg : w.grownBy w1 none) : Part w w1 n 0 M := by
  have hc := h
  have hl := h.lt w.heap.size rfl
  have hx := h.1
  refine ⟨fun _ => 0, fun _ => 0, fun t ht => absurd ht (Nat.not_lt_zero _), fun t ht => ?_, fun t => ?_, fun t ht => absurd ht (Nat.not_lt_zero _), fun s t hs => absurd hs (Nat.not_lt_zero _), ?_, hl.2⟩
  · have := hc.cells (g := w.heap.size) rfl t (xs[t]'(by omega)) (by simp)
    rw [add_off, Nat.zero_add] at this
    exact ⟨_, this⟩
  · rcases h.2 with ⟨h1, _⟩ | ⟨g', cap', cur, h1, h2, h3, h4, h5, h6⟩
    · cases h1
    · cases h1
      unfold World.frozen?
      simp [h3]
  · exact (Below.refl _ w).grown hg (Nat.le_refl _) (fun k hk => by cases hk)

set_option maxHeartbeats 1000000 in
theorem copied_net (g o n k : Nat) (b p c : Nat → Nat) (M : Mat) (hn : n ≤ 24) (h0 : 0 < n) (hk : n ≤ k) (hk' : k ≤ 9223372036854775807) (w : World) (hw : NetAt w g o n b p c M) :
    Calls Try.prog 28 #[.slice (some ⟨g, o, none⟩) n k] w fun e w' => Made w w' n M e := by
  have HW := Lib.hid hw
  clear hw
  obtain ⟨i0, hi, hz0, hz1, hz2⟩ := info_parts info30
  have HI := Lib.hid hi
  have HZ0 := Lib.hid hz0
  have HZ1 := Lib.hid hz1
  have HZ2 := Lib.hid hz2
  clear hi hz0 hz1
  go_enter Try.func28, Try.ntmps28
  go_wp2_with (first
    | (at_make; refine wpList_make_full _ rfl _ _ 22 rfl w.heap.size 30 i0 (.slice none 0 0) 1 Try.underlying22 HI.out HZ0.out HZ1.out .i64 .i64 _ _ n rfl rfl rfl rfl (by rw [HZ2.out]; omega) (by unfold maxLen; omega) (Nat.le_refl _) ?_; intro w1 hown hgro; have HP := Lib.hid (part_zero (M := M) hown hgro); clear hown hgro))
  go_loopw [10] (fun ii wr => ∃ i : Nat, i ≤ n ∧ ii = .int .i64 i ∧ Hid (Part w wr n i M)) (fun ii _ => n - (intOf ii).toNat)
  case atStart => exact ⟨0, Nat.zero_le _, rfl, HP⟩
  case round =>
    clear HP
    obtain ⟨i, hi, rfl, HP⟩ := hrel
    by_cases hlt : i < n
    · have hb : Below w.heap.size w wr := by obtain ⟨_, _, _, _, _, _, _, h, _⟩ := HP.out; exact h
      have HR := Lib.hid (HW.out.keep hb)
      have c1 := HR.out.row i hlt
      have hc := HR.out.cap i hlt
      have C := Lib.hid (clone_row (b i) (p i) n (c i) (M i) hn h0 hc.1 hc.2 wr (HR.out.cells i hlt))
      have hs : w.heap.size < wr.heap.size := by obtain ⟨_, _, _, _, _, _, _, _, h⟩ := HP.out; exact h
      have ho : ∃ v, wr.cell? ⟨w.heap.size, i, none⟩ = some v := by obtain ⟨_, _, _, h, _⟩ := HP.out; exact h i hlt
      have hf : wr.frozen? ⟨w.heap.size, i, none⟩ = false := by obtain ⟨_, _, _, _, h, _⟩ := HP.out; exact h i
      obtain ⟨v, ho⟩ := ho
      clear hb hc
      generalize b i = bi at *
      generalize p i = pi at *
      generalize c i = ci at *
      go_wp2_with (go_at_call 36; (with_reducible refine (C.out).mono ?_); rintro e w2 ⟨g', cap', rfl, HG, HB2⟩; have ho2 := cell_keep ho HB2.out; have hf2 := (HB2.out.frozen (p := ⟨w.heap.size, i, none⟩) hs).trans hf; have HN := Lib.hid (part_step HP.out hlt g' cap' HB2.out HG.out); clear ho hf)
      go_roundw
      case rel => exact ⟨i + 1, by omega, by go_num, HN⟩
      case measure => simp [intOf]; omega
    · have hin : i = n := by omega
      have HD := Lib.hid (part_done (by rw [← hin]; exact hin ▸ HP.out : Part w wr n n M))
      clear hin
      go_wp2
      go_returns
      obtain ⟨b', c', hd⟩ := HD.out
      exact ⟨w.heap.size, 0, n, b', _, c', rfl, Nat.le_refl _, by omega, Lib.hid hd, Lib.hid (by obtain ⟨_, _, _, _, _, _, _, h, _⟩ := HP.out; exact h)⟩
end Go.Proofs.Ytnhbinghinlhgaa
