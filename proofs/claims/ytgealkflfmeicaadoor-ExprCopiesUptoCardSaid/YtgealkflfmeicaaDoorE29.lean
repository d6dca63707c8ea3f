/- Copy. -/
import Derived.Test.YtgealkflfmeicaaDoorE28
namespace Go.Proofs.YtgealkflfmeicaaDoor
set_option linter.unusedVariables false
set_option linter.unusedSimpArgs false
open Go.ChangeShapes Go.WideShapes Go.ChangeAt Go.RowKit
/-- No part has too many numbers, nor too long a name. -/
def SmL (l : List (Pt × Int)) : Prop := ∀ p ∈ l.map (fun x => x.1), p.nums.length ≤ 1048576 ∧ p.nm.size ≤ 1048576
theorem sml_app (a b : List (Pt × Int)) : SmL (a ++ b) ↔ SmL a ∧ SmL b := by
  unfold SmL
  rw [List.map_append]
  constructor
  · intro h; exact ⟨fun p hp => h p (List.mem_append_left _ hp), fun p hp => h p (List.mem_append_right _ hp)⟩
  · rintro ⟨h1, h2⟩ p hp
    rcases List.mem_append.1 hp with h | h
    · exact h1 p h
    · exact h2 p h
theorem sml_at {w : World} {n : Nat} {v : Value} {F : Tour} (h : ExAt w n v F) (d e : Int) : SmL (F d) ↔ SmL (F e) := by
  unfold SmL; rw [ex_parts h d e]
theorem len_at {w : World} {n : Nat} {v : Value} {F : Tour} (h : ExAt w n v F) (d e : Int) : (F d).length = (F e).length := by
  have := congrArg List.length (ex_parts h d e)
  simpa using this
theorem flat_get (Fs : List Tour) (d : Int) {i : Nat} (h : i < Fs.length) : ∃ A B, flat Fs d = A ++ (Fs[i] d ++ B) := by
  refine ⟨flat (Fs.take i) d, flat (Fs.drop (i + 1)) d, ?_⟩
  rw [← List.append_assoc, ← flat_take Fs d h, ← flat_app, List.take_append_drop]
/-- What Copy has made when j arguments are copied. -/
structure CpI (w wr : World) (m bx mid : Nat) (p : Pt) (an : Option Addr) (nn nc : Nat) (aa : Option Addr) (ac g : Nat) (Fs : List Tour) (j : Nat) : Prop where
  bw : Below w.heap.size w wr
  lo : w.heap.size ≤ bx
  b2 : bx + 2 ≤ mid
  bm : mid ≤ wr.heap.size
  box : wr.heap[bx]? = some (.cells #[.int .u8 p.op, .string p.nm, .slice an nn nc, .slice aa p.k ac] 25 (0, 0))
  res : wr.heap[bx + 1]? = some (.cells #[.int .u8 0, .string ⟨#[]⟩, .slice none 0 0, .slice none 0 0] 25 (0, 0))
  nums : OwnN wr (bx + 2) mid an nn nc p.nums
  row : ∃ (cur : Array Value) (cut : Nat → Nat), OwnR wr (bx + 2) mid aa p.k ac g cur ∧ cut 0 = mid ∧ cut j ≤ wr.heap.size ∧ (∀ i, i < j → cut i ≤ cut (i + 1)) ∧
    (∀ i (h : i < Fs.length), i < j → ∃ x0 x1 x2 x3, Four cur i x0 x1 x2 x3 ∧ Own wr m (cut i) (cut (i + 1)) (.agg #[x0, x1, x2, x3]) Fs[i]) ∧
    (∀ i (h : i < Fs.length), j ≤ i → ∃ x0 x1 x2 x3, Four cur i x0 x1 x2 x3 ∧ ExAt w m (.agg #[x0, x1, x2, x3]) Fs[i])
theorem CpI.keep {w wr W : World} {m bx mid : Nat} {p : Pt} {an : Option Addr} {nn nc : Nat} {aa : Option Addr} {ac g : Nat} {Fs : List Tour} {j : Nat} (h : CpI w wr m bx mid p an nn nc aa ac g Fs j) (q : Below wr.heap.size wr W) : CpI w W m bx mid p an nn nc aa ac g Fs j := by
  have hs := q.size
  have hb := h.b2
  have hm := h.bm
  refine ⟨h.bw.trans (q.mono h.bw.size), h.lo, h.b2, by omega, (q.block bx (by omega)).trans h.box, (q.block (bx + 1) (by omega)).trans h.res, h.nums.keep (fun r _ b => q.block r (by omega)), ?_⟩
  obtain ⟨cur, cut, h1, h2, h3, h4, h5, h6⟩ := h.row
  refine ⟨cur, cut, h1.keep (fun r _ b => q.block r (by omega)), h2, by omega, h4, fun i hi hj => ?_, h6⟩
  obtain ⟨x0, x1, x2, x3, f, o⟩ := h5 i hi hj
  have c := cut_le h4 j (Nat.le_refl _) (i + 1) (by omega)
  exact ⟨x0, x1, x2, x3, f, o.keep (fun r _ b => q.block r (by omega))⟩
/-- Four cells written. -/
def put4 (cur : Array Value) (j : Nat) (y0 y1 y2 y3 : Value) : Array Value := (((cur.setIfInBounds (j * 4) y0).setIfInBounds (j * 4 + 1) y1).setIfInBounds (j * 4 + 2) y2).setIfInBounds (j * 4 + 3) y3
theorem put4_at {cur : Array Value} {j : Nat} {x0 x1 x2 x3 : Value} (h : Four cur j x0 x1 x2 x3) (y0 y1 y2 y3 : Value) : Four (put4 cur j y0 y1 y2 y3) j y0 y1 y2 y3 := by
  obtain ⟨h0, h1, h2, h3⟩ := h
  have g : j * 4 + 3 < cur.size := by
    rcases Nat.lt_or_ge (j * 4 + 3) cur.size with z | z
    · exact z
    · rw [Array.getElem?_eq_none z] at h3; cases h3
  unfold Four put4
  refine ⟨?_, ?_, ?_, ?_⟩ <;> simp [Array.getElem?_setIfInBounds] <;> omega
theorem put4_off {cur : Array Value} {i j : Nat} (hij : i ≠ j) {x0 x1 x2 x3 : Value} (h : Four cur i x0 x1 x2 x3) (y0 y1 y2 y3 : Value) : Four (put4 cur j y0 y1 y2 y3) i x0 x1 x2 x3 := by
  obtain ⟨h0, h1, h2, h3⟩ := h
  unfold Four put4
  refine ⟨?_, ?_, ?_, ?_⟩
  · rw [Array.getElem?_setIfInBounds_ne (by omega), Array.getElem?_setIfInBounds_ne (by omega), Array.getElem?_setIfInBounds_ne (by omega), Array.getElem?_setIfInBounds_ne (by omega)]; exact h0
  · rw [Array.getElem?_setIfInBounds_ne (by omega), Array.getElem?_setIfInBounds_ne (by omega), Array.getElem?_setIfInBounds_ne (by omega), Array.getElem?_setIfInBounds_ne (by omega)]; exact h1
  · rw [Array.getElem?_setIfInBounds_ne (by omega), Array.getElem?_setIfInBounds_ne (by omega), Array.getElem?_setIfInBounds_ne (by omega), Array.getElem?_setIfInBounds_ne (by omega)]; exact h2
  · rw [Array.getElem?_setIfInBounds_ne (by omega), Array.getElem?_setIfInBounds_ne (by omega), Array.getElem?_setIfInBounds_ne (by omega), Array.getElem?_setIfInBounds_ne (by omega)]; exact h3
/-- The world with four cells of a block written. -/
def set4 (W : World) (g o : Nat) (y0 y1 y2 y3 : Value) : World := (((W.setCell ⟨g, o, none⟩ y0).setCell ⟨g, o + 1, none⟩ y1).setCell ⟨g, o + 2, none⟩ y2).setCell ⟨g, o + 3, none⟩ y3
theorem set4_size (W : World) (g o : Nat) (y0 y1 y2 y3 : Value) : (set4 W g o y0 y1 y2 y3).heap.size = W.heap.size := by simp [set4, World.setCell]
theorem set4_off (W : World) (g o : Nat) (y0 y1 y2 y3 : Value) {r : Nat} (h : r ≠ g) : (set4 W g o y0 y1 y2 y3).heap[r]? = W.heap[r]? := by
  unfold set4
  rw [Below.heap_setCell _ _ _ _ (fun e => h e), Below.heap_setCell _ _ _ _ (fun e => h e), Below.heap_setCell _ _ _ _ (fun e => h e), Below.heap_setCell _ _ _ _ (fun e => h e)]
theorem set4_on {W : World} {g j : Nat} {cur : Array Value} {t : TypeId} (h : W.heap[g]? = some (.cells cur t (0, 0))) (y0 y1 y2 y3 : Value) : (set4 W g (j * 4) y0 y1 y2 y3).heap[g]? = some (.cells (put4 cur j y0 y1 y2 y3) t (0, 0)) := by
  unfold set4 put4
  exact set_block (set_block (set_block (set_block h _ _) _ _) _ _) _ _
theorem set4_below {B : Nat} {a W : World} {g : Nat} (h : Below B a W) (hg : B ≤ g) (o : Nat) (y0 y1 y2 y3 : Value) : Below B a (set4 W g o y0 y1 y2 y3) := by
  unfold set4
  exact (((h.setCell (p := ⟨g, o, none⟩) hg y0).setCell (p := ⟨g, o + 1, none⟩) hg y1).setCell (p := ⟨g, o + 2, none⟩) hg y2).setCell (p := ⟨g, o + 3, none⟩) hg y3
theorem CpI.step {w W : World} {m bx mid : Nat} {p : Pt} {an : Option Addr} {nn nc : Nat} {aa : Option Addr} {ac g : Nat} {Fs : List Tour} {j : Nat} (h : CpI w W m bx mid p an nn nc aa ac g Fs j) (hj : j < p.k) (hk : Fs.length = p.k) {lo : Nat} {y0 y1 y2 y3 : Value} (ho : Own W m lo W.heap.size (.agg #[y0, y1, y2, y3]) (Fs[j]'(by rw [hk]; exact hj))) (hlo : ∃ wr : World, lo = wr.heap.size ∧ CpI w wr m bx mid p an nn nc aa ac g Fs j ∧ Below wr.heap.size wr W) :
    CpI w (set4 W g (j * 4) y0 y1 y2 y3) m bx mid p an nn nc aa ac g Fs (j + 1) := by
  obtain ⟨wr, rfl, hr, hb⟩ := hlo
  have hsz := set4_size W g (j * 4) y0 y1 y2 y3
  have hs := hb.size
  have hB := h.b2
  have hm := hr.bm
  have hlo := h.lo
  obtain ⟨cur, cut, h1, h2, h3, h4, h5, h6⟩ := hr.row
  obtain ⟨e1, e2, e3, e4⟩ := h1.here (by omega)
  have hg : g ≠ bx := by omega
  have hg1 : g ≠ bx + 1 := by omega
  have kp : ∀ r, r < wr.heap.size → r ≠ g → (set4 W g (j * 4) y0 y1 y2 y3).heap[r]? = wr.heap[r]? := fun r a b => (set4_off W g (j * 4) y0 y1 y2 y3 b).trans (hb.block r a)
  refine ⟨set4_below h.bw (by omega) _ _ _ _ _, h.lo, h.b2, by omega, (kp bx (by omega) (fun e => hg e.symm)).trans hr.box, (kp (bx + 1) (by omega) (fun e => hg1 e.symm)).trans hr.res, ?_, ?_⟩
  · have hn := hr.nums
    refine ⟨hn.len, hn.le, hn.top, hn.bare, hn.rng, fun h0 => ?_⟩
    obtain ⟨b, c, f1, f2, f3, f4, f5⟩ := hn.here h0
    have ne : b ≠ g := by rintro rfl; rw [f4] at e4; cases e4
    exact ⟨b, c, f1, f2, f3, (kp b (by omega) ne).trans f4, f5⟩
  · have hcur : W.heap[g]? = some (.cells cur 25 (0, 0)) := (hb.block g (by omega)).trans e4
    refine ⟨put4 cur j y0 y1 y2 y3, fun i => if i ≤ j then cut i else W.heap.size, ⟨h1.le, h1.top, h1.bare, fun _ => ⟨e1, e2, e3, set4_on hcur _ _ _ _⟩⟩, by dsimp only; rw [if_pos (Nat.zero_le _)]; exact h2, by dsimp only; rw [if_neg (by omega)]; omega, fun i hi => ?_, fun i hi hij => ?_, fun i hi hij => ?_⟩
    · dsimp only
      by_cases z : i < j
      · rw [if_pos (by omega), if_pos (by omega)]; exact h4 i z
      · obtain rfl : i = j := by omega
        rw [if_pos (by omega), if_neg (by omega)]; omega
    · have c0 := cut_le h4 j (Nat.le_refl _) 0 (by omega)
      dsimp only
      by_cases z : i < j
      · obtain ⟨x0, x1, x2, x3, f, o⟩ := h5 i hi z
        have c := cut_le h4 j (Nat.le_refl _) (i + 1) (by omega)
        have c1 := cut_le h4 i (by omega) 0 (by omega)
        rw [if_pos (by omega), if_pos (by omega)]
        exact ⟨x0, x1, x2, x3, put4_off (by omega) f _ _ _ _, o.keep (fun r a b => kp r (by omega) (by omega))⟩
      · obtain rfl : i = j := by omega
        rw [if_pos (by omega), if_neg (by omega)]
        obtain ⟨x0, x1, x2, x3, f, _⟩ := h6 i hi (by omega)
        exact ⟨y0, y1, y2, y3, put4_at f _ _ _ _, (ho.keep (fun r a b => set4_off W g (i * 4) y0 y1 y2 y3 (by omega))).mono (by omega) (Nat.le_refl _)⟩
    · obtain ⟨x0, x1, x2, x3, f, o⟩ := h6 i hi (by omega)
      exact ⟨x0, x1, x2, x3, put4_off (by omega) f _ _ _ _, o⟩
theorem CpI.own {w wr W : World} {m bx mid : Nat} {p : Pt} {an : Option Addr} {nn nc : Nat} {aa : Option Addr} {ac g : Nat} {Fs : List Tour} (h : CpI w wr m bx mid p an nn nc aa ac g Fs p.k) (hk : Fs.length = p.k) (ho : 0 ≤ p.op ∧ p.op ≤ 255 ∧ p.nm.size ≤ maxLen) (hs : wr.heap.size = W.heap.size) (hW : ∀ r, bx + 2 ≤ r → W.heap[r]? = wr.heap[r]?) : Own W (m + 1) w.heap.size W.heap.size (.agg #[.int .u8 p.op, .string p.nm, .slice an nn nc, .slice aa p.k ac]) (fun d => (p, d) :: flat Fs (d + 1)) := by
  obtain ⟨cur, cut, h1, h2, h3, h4, h5, _⟩ := h.row
  have hl := h.lo
  have hb := h.b2
  have hn := h.nums
  rw [← h2] at hn h1 hb
  refine ⟨p, an, nn, nc, aa, ac, g, cur, Fs, cut, rfl, ho, (hn.keep (fun r a _ => hW r a)).mono (by omega) (Nat.le_refl _), (h1.keep (fun r a _ => hW r a)).mono (by omega) (Nat.le_refl _), hk, rfl, by omega, by omega, h4, fun i hi => ?_⟩
  obtain ⟨x0, x1, x2, x3, f, o⟩ := h5 i hi (by omega)
  have c := cut_le h4 i (by omega) 0 (by omega)
  exact ⟨x0, x1, x2, x3, f, o.keep (fun r a _ => hW r (by omega))⟩
theorem cp_cells {w W : World} {m bx mid : Nat} {p : Pt} {an : Option Addr} {nn nc : Nat} {aa : Option Addr} {ac g : Nat} {Fs : List Tour} {j : Nat} (h : CpI w W m bx mid p an nn nc aa ac g Fs j) (hj : j < p.k) (hk : Fs.length = p.k) : ∃ z0 z1 z2 z3, W.cell? ⟨g, j * 4, none⟩ = some z0 ∧ W.cell? ⟨g, j * 4 + 1, none⟩ = some z1 ∧ W.cell? ⟨g, j * 4 + 2, none⟩ = some z2 ∧ W.cell? ⟨g, j * 4 + 3, none⟩ = some z3 ∧ W.frozen? ⟨g, j * 4, none⟩ = false ∧ W.frozen? ⟨g, j * 4 + 1, none⟩ = false ∧ W.frozen? ⟨g, j * 4 + 2, none⟩ = false ∧ W.frozen? ⟨g, j * 4 + 3, none⟩ = false := by
  obtain ⟨cur, cut, h1, _, _, _, _, h6⟩ := h.row
  obtain ⟨_, _, _, e⟩ := h1.here (by omega)
  obtain ⟨x0, x1, x2, x3, ⟨c0, c1, c2, c3⟩, _⟩ := h6 j (by omega) (Nat.le_refl _)
  exact ⟨x0, x1, x2, x3, (cell_blk e _).trans c0, (cell_blk e _).trans c1, (cell_blk e _).trans c2, (cell_blk e _).trans c3, blk_free e _, blk_free e _, blk_free e _, blk_free e _⟩
set_option maxRecDepth 8000 in
set_option maxHeartbeats 4000000 in
theorem copy_any : ∀ (n : Nat) (v : Value) (F : Tour) (w : World), ExAt w n v F → SmL (F 1) → (F 1).length ≤ 1048576 → Calls Tryd.prog 23 #[v] w fun e w' => ∃ v', e = .returned v' ∧ Below w.heap.size w w' ∧ Own w' n w.heap.size w'.heap.size v' F
  | 0, _, _, _, h, _, _ => h.elim
  | n + 1, v, F, w, h, hs, hl => by
    have IH := Lib.hid (fun v F w h hs hl => copy_any n v F w h hs hl)
    obtain ⟨p, an, nn, nc, aa, ac, Fs, rfl, hh, hk, rfl, hc⟩ := h
    unfold pv
    have HC := Lib.hid hc
    have HK := Lib.hid hk
    have hs0 := hs p (by simp)
    have hnl := hh.nums.len
    have HSM : Hid (SmL (flat Fs (1 + 1))) := Lib.hid (fun q hq => hs q (List.mem_cons_of_mem _ hq))
    have HLN : Hid ((flat Fs (1 + 1)).length ≤ 1048576) := Lib.hid (by have : ((p, (1 : Int)) :: flat Fs (1 + 1)).length ≤ 1048576 := hl; simp at this ⊢; omega)
    have hkl : p.k ≤ 1048576 := by
      have : ∀ (l : List Tour), (∀ F ∈ l, ∃ v, ExAt w n v F) → l.length ≤ (flat l (1 + 1)).length := by
        intro l
        induction l with
        | nil => intro _; simp
        | cons F l ih =>
          intro h
          have a := ih (fun F hF => h F (List.mem_cons_of_mem _ hF))
          obtain ⟨v, hv⟩ := h F (List.mem_cons_self ..)
          have b := List.length_pos_iff.2 (tour_ne hv (1 + 1))
          have e : flat (F :: l) (1 + 1) = F (1 + 1) ++ flat l (1 + 1) := by simp [flat]
          rw [e, List.length_append, List.length_cons]; omega
      have := this Fs (exs_of hk hc)
      have := HLN.out
      omega
    have k0 : (0 : Int) ≤ (p.k : Int) := by omega
    have k1 : (p.k : Int) ≤ 9223372036854775807 := by omega
    have H1 := Lib.hid (fun W (hW : Below w.heap.size w W) => cloneN_any an nn nc p.nums (by omega) w W hh.nums hW)
    have H2 := Lib.hid (fun W (hW : Below w.heap.size w W) => cloneE_any n aa p.k ac Fs hk hkl hh.bare w W hc hW)
    have HO := Lib.hid (And.intro hh.o1 (And.intro hh.o2 hh.nmle))
    obtain ⟨b, hb⟩ : ∃ z, w.heap.size = z := ⟨_, rfl⟩
    have HBB : Hid (w.heap.size = b) := Lib.hid hb
    obtain ⟨w1, hw1⟩ : ∃ z, (w.alloc (.cells #[.int .u8 p.op, .string p.nm, .slice an nn nc, .slice aa p.k ac] 25)).alloc (.cells #[.int .u8 0, .string ⟨#[]⟩, .slice none 0 0, .slice none 0 0] 25) = z := ⟨_, rfl⟩
    have HX : Hid (Bx2 w w1 b #[.int .u8 p.op, .string p.nm, .slice an nn nc, .slice aa p.k ac] #[.int .u8 0, .string ⟨#[]⟩, .slice none 0 0, .slice none 0 0]) := Lib.hid ⟨by rw [← hw1]; exact ((Below.refl _ w).alloc (Nat.le_refl _) _).alloc (by simp) _, by rw [← hw1, al_old _ _ (by simp; omega), ← hb, al_new], by rw [← hw1, show b + 1 = (w.alloc (.cells #[.int .u8 p.op, .string p.nm, .slice an nn nc, .slice aa p.k ac] 25)).heap.size by simp; omega, al_new]⟩
    have HS1 : Hid (w1.heap.size = b + 2) := Lib.hid (by rw [← hw1]; simp; omega)
    have hb1 : (w.alloc (.cells #[.int .u8 p.op, .string p.nm, .slice an nn nc, .slice aa p.k ac] 25)).heap.size = b + 1 := by simp; omega
    clear hc hk hh hs hl hs0 hnl hkl
    have e0 := cell_blk HX.out.b1 0
    have e1 := cell_blk HX.out.b1 1
    have e2 := cell_blk HX.out.b1 2
    have e3 := cell_blk HX.out.b1 3
    go_enter Tryd.func23, Tryd.ntmps23
    go_wp2_with fail
    (with_reducible refine (H1.out _ HX.out.bw).mono ?_)
    rintro e w2 ⟨an2, nc2, rfl, HN, q⟩
    have HX := Lib.hid (HX.out.keep q)
    have HN := Lib.hid HN
    have HQ := Lib.hid q.size
    clear q H1 e0 e1 e2 e3 hw1 hb hb1
    have e2 := cell_blk HX.out.b1 2
    have f2 := blk_free HX.out.b1 2
    go_upto_region 2 with fail
    clear e2 f2
    obtain ⟨w3, hw3⟩ : ∃ z, w2.setCell ⟨b, 2, none⟩ (.slice an2 nn nc2) = z := ⟨_, rfl⟩
    rw [hw3]
    obtain ⟨HB3, HX3, HY3, HN3, HS3⟩ : Hid (Below w.heap.size w w3) ∧ Hid (w3.heap[b]? = some (.cells #[.int .u8 p.op, .string p.nm, .slice an2 nn nc2, .slice aa p.k ac] 25 (0, 0))) ∧ Hid (w3.heap[b + 1]? = some (.cells #[.int .u8 0, .string ⟨#[]⟩, .slice none 0 0, .slice none 0 0] 25 (0, 0))) ∧ Hid (OwnN w3 (b + 2) w3.heap.size an2 nn nc2 p.nums) ∧ Hid (b + 2 ≤ w3.heap.size) := by
      have hz : w3.heap.size = w2.heap.size := by rw [← hw3]; simp [World.setCell]
      have a1 := HS1.out
      have a2 := HQ.out
      have a3 := HBB.out
      refine ⟨Lib.hid ?_, Lib.hid ?_, Lib.hid ?_, Lib.hid ?_, Lib.hid (by omega)⟩
      · rw [← hw3]; exact HX.out.bw.setCell (p := ⟨b, 2, none⟩) (by show w.heap.size ≤ b; omega) _
      · rw [← hw3]; exact set_block HX.out.b1 2 _
      · rw [← hw3, Below.heap_setCell _ _ _ _ (by intro e; have : b + 1 = b := e; omega)]; exact HX.out.b2
      · refine (HN.out.mono (lo' := b + 2) (hi' := w3.heap.size) (by omega) (by omega)).keep (fun r c d => ?_)
        rw [← hw3, Below.heap_setCell _ _ _ _ (by intro e; have : r = b := e; omega)]
    clear hw3 HX HN HQ HS1
    have e0 := cell_blk HX3.out 0
    have e1 := cell_blk HX3.out 1
    have e2 := cell_blk HX3.out 2
    have e3 := cell_blk HX3.out 3
    go_wp2_with fail
    (with_reducible refine (H2.out _ HB3.out).mono ?_)
    rintro e w4 ⟨aa2, ac2, g, cur, rfl, HR, HF, q⟩
    obtain ⟨HB4, HX4, HY4, HN4, HR4, HS4⟩ : Hid (Below w.heap.size w w4) ∧ Hid (w4.heap[b]? = some (.cells #[.int .u8 p.op, .string p.nm, .slice an2 nn nc2, .slice aa p.k ac] 25 (0, 0))) ∧ Hid (w4.heap[b + 1]? = some (.cells #[.int .u8 0, .string ⟨#[]⟩, .slice none 0 0, .slice none 0 0] 25 (0, 0))) ∧ Hid (OwnN w4 (b + 2) w4.heap.size an2 nn nc2 p.nums) ∧ Hid (OwnR w4 (b + 2) w4.heap.size aa2 p.k ac2 g cur) ∧ Hid (b + 2 ≤ w4.heap.size) := by
      have hz := q.size
      have a1 := HS3.out
      refine ⟨Lib.hid (HB3.out.trans (q.mono HB3.out.size)), Lib.hid ((q.block b (by omega)).trans HX3.out), Lib.hid ((q.block (b + 1) (by omega)).trans HY3.out), Lib.hid ((HN3.out.keep (fun r _ d => q.block r d)).mono (Nat.le_refl _) hz), Lib.hid (HR.mono a1 (Nat.le_refl _)), Lib.hid (by omega)⟩
    have HF := Lib.hid HF
    clear q HR H2 e0 e1 e2 e3 HB3 HX3 HY3 HN3 HS3
    have e3 := cell_blk HX4.out 3
    have f3 := blk_free HX4.out 3
    go_upto_region 3 with fail
    clear e3 f3
    obtain ⟨w5, hw5⟩ : ∃ z, w4.setCell ⟨b, 3, none⟩ (.slice aa2 p.k ac2) = z := ⟨_, rfl⟩
    rw [hw5]
    have HI : Hid (CpI w w5 n b w5.heap.size p an2 nn nc2 aa2 ac2 g Fs 0) := by
      have hz : w5.heap.size = w4.heap.size := by rw [← hw5]; simp [World.setCell]
      have a1 := HS4.out
      have a3 := HBB.out
      refine Lib.hid ⟨?_, by omega, by omega, Nat.le_refl _, ?_, ?_, ?_, cur, fun _ => w5.heap.size, ?_, rfl, Nat.le_refl _, fun i hi => absurd hi (Nat.not_lt_zero _), fun i hi hij => absurd hij (Nat.not_lt_zero _), fun i hi _ => HF.out i hi⟩
      · rw [← hw5]; exact HB4.out.setCell (p := ⟨b, 3, none⟩) (by show w.heap.size ≤ b; omega) _
      · rw [← hw5]; exact set_block HX4.out 3 _
      · rw [← hw5, Below.heap_setCell _ _ _ _ (by intro e; have : b + 1 = b := e; omega)]; exact HY4.out
      · refine (HN4.out.mono (hi' := w5.heap.size) (Nat.le_refl _) (by omega)).keep (fun r c d => ?_)
        rw [← hw5, Below.heap_setCell _ _ _ _ (by intro e; have : r = b := e; omega)]
      · refine (HR4.out.mono (hi' := w5.heap.size) (Nat.le_refl _) (by omega)).keep (fun r c d => ?_)
        rw [← hw5, Below.heap_setCell _ _ _ _ (by intro e; have : r = b := e; omega)]
    obtain ⟨mid, hmid⟩ : ∃ z, w5.heap.size = z := ⟨_, rfl⟩
    rw [hmid] at HI
    clear hw5 HB4 HX4 HY4 HN4 HR4 HS4 HF hmid
    have e3 := cell_blk HI.out.box 3
    go_upto_region 4 with fail
    clear e3
    go_loopw [3, 4, 16] (fun s3 s4 ii wr => ∃ (j : Nat), j ≤ p.k ∧ ii = .int .i64 j ∧ Hid (CpI w wr n b mid p an2 nn nc2 aa2 ac2 g Fs j)) (fun _ _ ii _ => p.k - (intOf ii).toNat)
    case atStart => exact ⟨0, Nat.zero_le _, rfl, HI⟩
    case round =>
      clear HI
      obtain ⟨j, hj, rfl, HI⟩ := hrel
      have j0 : (0 : Int) ≤ (j : Int) := by omega
      by_cases jlt : j < p.k
      · have j1 : (j : Int) < p.k := by omega
        obtain ⟨cur, cut, hR, _, _, _, _, h6⟩ := HI.out.row
        obtain ⟨rfl, hg1, hg2, hcur⟩ := hR.here (by omega)
        obtain ⟨x0, x1, x2, x3, ⟨c0, c1, c2, c3⟩, hx⟩ := h6 j (by rw [HK.out]; exact jlt) (Nat.le_refl _)
        obtain ⟨p2, an3, nn3, nc3, aa3, ac3, ex, hh2⟩ := hx.head
        cases ex
        have g0 := (cell_blk hcur (j * 4)).trans c0
        have g1 := (cell_blk hcur (j * 4 + 1)).trans c1
        have g2 := (cell_blk hcur (j * 4 + 2)).trans c2
        have g3 := (cell_blk hcur (j * 4 + 3)).trans c3
        obtain ⟨W1, hW1⟩ : ∃ z, wr.alloc (.cells #[.int .u8 p2.op, .string p2.nm, .slice an3 nn3 nc3, .slice aa3 p2.k ac3] 25) = z := ⟨_, rfl⟩
        obtain ⟨ax, hax⟩ : ∃ z, wr.heap.size = z := ⟨_, rfl⟩
        have HB1 := Lib.hid (show Below wr.heap.size wr W1 by rw [← hW1]; exact (Below.refl _ wr).alloc (Nat.le_refl _) _)
        have HA1 : Hid (W1.heap[ax]? = some (.cells #[.int .u8 p2.op, .string p2.nm, .slice an3 nn3 nc3, .slice aa3 p2.k ac3] 25 (0, 0))) := Lib.hid (by rw [← hW1, ← hax, al_new])
        have HI1 := Lib.hid (HI.out.keep HB1.out)
        go_upto_region 6 with fail
        clear g0 g1 g2 g3 c0 c1 c2 c3
        obtain ⟨G, hG⟩ : ∃ G : Tour, Fs[j]'(by rw [HK.out]; exact jlt) = G := ⟨_, rfl⟩
        rw [hG] at hx
        have HSG : Hid (SmL (G 1)) := Lib.hid (by
          obtain ⟨A, B, e⟩ := flat_get Fs (1 + 1) (i := j) (by rw [HK.out]; exact jlt)
          have a := HSM.out
          rw [e, sml_app, sml_app, hG] at a
          exact (sml_at hx 1 (1 + 1)).2 a.2.1)
        have HLG : Hid ((G 1).length ≤ 1048576) := Lib.hid (by
          obtain ⟨A, B, e⟩ := flat_get Fs (1 + 1) (i := j) (by rw [HK.out]; exact jlt)
          have a := HLN.out
          rw [e, List.length_append, List.length_append, hG] at a
          rw [len_at hx 1 (1 + 1)]; omega)
        have HIH := Lib.hid (fun W (hW : Below w.heap.size w W) => IH.out _ G W (hx.keep hW) HSG.out HLG.out)
        have HD1 : Hid (CpI w W1.drew n b mid p an2 nn nc2 _ ac2 g Fs j) := Lib.hid (HI1.out.keep (Below.refl _ W1).drew)
        have HDB : Hid (Below wr.heap.size wr W1.drew) := Lib.hid (HB1.out.trans ((Below.refl _ W1).drew.mono HB1.out.size))
        have HG := Lib.hid hG
        have e3 := cell_blk HI1.out.box 3
        have a0 := cell_blk HA1.out 0
        have a1 := cell_blk HA1.out 1
        have a2 := cell_blk HA1.out 2
        have a3 := cell_blk HA1.out 3
        clear hG hh2 hx h6 hcur hR hW1 hax HA1 HI1 HB1
        go_region_with (go_at_call 23; (with_reducible refine (HIH.out _ HD1.out.bw).mono ?_); rintro e w6 ⟨v6, rfl, q, ho⟩; obtain ⟨p6, an6, nn6, nc6, aa6, ac6, rfl, _⟩ := ho.ex.head; have HI6 := Lib.hid (HD1.out.keep q); have HB6 := Lib.hid (HDB.out.trans (q.mono HDB.out.size)); have HO6 := Lib.hid (ho.mono (lo' := wr.heap.size) HDB.out.size (Nat.le_refl _)); clear q ho; have e3 := cell_blk HI6.out.box 3; obtain ⟨z0, z1, z2, z3, i0, i1, i2, i3, k0, k1, k2, k3⟩ := cp_cells HI6.out (by omega) HK.out)
        all_goals
          obtain ⟨w7, hw7⟩ : ∃ z, set4 w6 g (j * 4) (.int .u8 p6.op) (.string p6.nm) (.slice an6 nn6 nc6) (.slice aa6 p6.k ac6) = z := ⟨_, rfl⟩
          have HI7 : Hid (CpI w w7 n b mid p an2 nn nc2 _ ac2 g Fs (j + 1)) := Lib.hid (by
            rw [← hw7]
            exact HI6.out.step jlt HK.out (by rw [HG.out]; exact HO6.out) ⟨wr, rfl, HI.out, HB6.out⟩)
          unfold set4 at hw7
          rw [hw7]
          clear hw7 HI HI6 HO6 HB6 HIH HD1 HDB e3 a0 a1 a2 a3 i0 i1 i2 i3 k0 k1 k2 k3
          go_wp2
          go_roundw
          case rel => exact ⟨j + 1, by omega, by go_num, HI7⟩
          case measure => simp [intOf]; omega
      · have j1 : (p.k : Int) ≤ (j : Int) := by omega
        obtain rfl : j = p.k := by omega
        have e0 := cell_blk HI.out.box 0
        have e1 := cell_blk HI.out.box 1
        have e2 := cell_blk HI.out.box 2
        have e3 := cell_blk HI.out.box 3
        have f0 := cell_blk HI.out.res 0
        have f1 := cell_blk HI.out.res 1
        have f2 := cell_blk HI.out.res 2
        have f3 := cell_blk HI.out.res 3
        have g0 := blk_free HI.out.res 0
        have g1 := blk_free HI.out.res 1
        have g2 := blk_free HI.out.res 2
        have g3 := blk_free HI.out.res 3
        obtain ⟨w8, hw8⟩ : ∃ z, set4 wr (b + 1) (0 * 4) (.int .u8 p.op) (.string p.nm) (.slice an2 nn nc2) (.slice aa2 p.k ac2) = z := ⟨_, rfl⟩
        have HX8 := Lib.hid (show w8.heap[b + 1]? = some (.cells (put4 #[.int .u8 0, .string ⟨#[]⟩, .slice none 0 0, .slice none 0 0] 0 (.int .u8 p.op) (.string p.nm) (.slice an2 nn nc2) (.slice aa2 p.k ac2)) 25 (0, 0)) by rw [← hw8]; exact set4_on HI.out.res _ _ _ _)
        have HB8 : Hid (Below w.heap.size w w8) := Lib.hid (by rw [← hw8]; exact set4_below HI.out.bw (by have := HBB.out; omega) _ _ _ _ _)
        have HO8 := Lib.hid (CpI.own HI.out HK.out HO.out (W := w8) (by rw [← hw8]; exact (set4_size ..).symm) (fun r hr => by rw [← hw8]; exact set4_off _ _ _ _ _ _ _ (by omega)))
        have r0 := cell_blk HX8.out 0
        have r1 := cell_blk HX8.out 1
        have r2 := cell_blk HX8.out 2
        have r3 := cell_blk HX8.out 3
        simp only [put4, List.setIfInBounds_toArray, List.set_cons_zero, List.set_cons_succ] at r0 r1 r2 r3
        unfold set4 at hw8
        go_wp2
        exact bodyPost_ret (v := .agg #[.int .u8 p.op, .string p.nm, .slice an2 nn nc2, .slice aa2 p.k ac2]) (by simp [results, Tryd.results23, go_sem, r0, r1, r2, r3]) rfl ⟨_, rfl, HB8.out, HO8.out⟩
end Go.Proofs.YtgealkflfmeicaaDoor
