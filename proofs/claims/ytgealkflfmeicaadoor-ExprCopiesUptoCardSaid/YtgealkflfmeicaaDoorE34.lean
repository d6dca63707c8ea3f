/- A part of a copy, reached through its arguments, and changed. -/
import Derived.Test.YtgealkflfmeicaaDoorE29
namespace Go.Proofs.YtgealkflfmeicaaDoor
set_option linter.unusedVariables false
set_option linter.unusedSimpArgs false
open Go.ChangeShapes Go.WideShapes Go.ChangeAt Go.RowKit
/-- A node of an expression whose memory is its own, at four cells of a block; whatever is put there is the whole's, there. -/
structure Foc (w : World) (L H : Nat) (bx n : Nat) (F : Tour) (g o n1 lo hi : Nat) (F1 : Tour) (cur : Array Value) (x0 x1 x2 x3 : Value) : Prop where
  blk : w.heap[g]? = some (.cells cur 25 (0, 0))
  c0 : cur[o]? = some x0
  c1 : cur[o + 1]? = some x1
  c2 : cur[o + 2]? = some x2
  c3 : cur[o + 3]? = some x3
  own : Own w n1 lo hi (.agg #[x0, x1, x2, x3]) F1
  top : hi ≤ w.heap.size
  out : ¬ (lo ≤ g ∧ g < hi)
  inn : g = bx ∨ (L ≤ g ∧ g < H)
  sub : L ≤ lo ∧ hi ≤ H
  sm : SmL (F1 1)
  up : ∀ (W : World) (cur' : Array Value) (y0 y1 y2 y3 : Value) (G : Tour), W.heap[g]? = some (.cells cur' 25 (0, 0)) → (∀ j, j < o ∨ o + 4 ≤ j → cur'[j]? = cur[j]?) → cur'[o]? = some y0 → cur'[o + 1]? = some y1 → cur'[o + 2]? = some y2 → cur'[o + 3]? = some y3 →
    (∀ q, q < w.heap.size → q ≠ g → ¬ (lo ≤ q ∧ q < hi) → W.heap[q]? = w.heap[q]?) → ExAt W n1 (.agg #[y0, y1, y2, y3]) G →
    ∃ (z0 z1 z2 z3 : Value) (F2 : Tour), (W.cell? ⟨bx, 0, none⟩ = some z0 ∧ W.cell? ⟨bx, 1, none⟩ = some z1 ∧ W.cell? ⟨bx, 2, none⟩ = some z2 ∧ W.cell? ⟨bx, 3, none⟩ = some z3) ∧ ExAt W n (.agg #[z0, z1, z2, z3]) F2 ∧ (F2 = F → G = F1)
theorem Foc.keep {w w' : World} {L H bx n : Nat} {F : Tour} {g o n1 lo hi : Nat} {F1 : Tour} {cur : Array Value} {x0 x1 x2 x3 : Value} (h : Foc w L H bx n F g o n1 lo hi F1 cur x0 x1 x2 x3) (q : Below w.heap.size w w') : Foc w' L H bx n F g o n1 lo hi F1 cur x0 x1 x2 x3 :=
  ⟨(q.block g (Array.getElem?_eq_some_iff.1 h.blk).1).trans h.blk, h.c0, h.c1, h.c2, h.c3, h.own.keep (fun r a b => q.block r (Nat.lt_of_lt_of_le b h.top)), Nat.le_trans h.top q.size, h.out, h.inn, h.sub, h.sm, fun W cur' y0 y1 y2 y3 G a1 a2 a3 a4 a5 a6 a7 a8 => h.up W cur' y0 y1 y2 y3 G a1 a2 a3 a4 a5 a6 (fun r b1 b2 b3 => (a7 r (Nat.lt_of_lt_of_le b1 q.size) b2 b3).trans (q.block r b1)) a8⟩
/-- The whole. -/
theorem Foc.root {w : World} {bx n lo hi : Nat} {F : Tour} {x0 x1 x2 x3 : Value} (hb : w.heap[bx]? = some (.cells #[x0, x1, x2, x3] 25 (0, 0))) (ho : Own w n lo hi (.agg #[x0, x1, x2, x3]) F) (ht : hi ≤ w.heap.size) (hx : ¬ (lo ≤ bx ∧ bx < hi)) (hs : SmL (F 1)) : Foc w lo hi bx n F bx 0 n lo hi F #[x0, x1, x2, x3] x0 x1 x2 x3 :=
  ⟨hb, rfl, rfl, rfl, rfl, ho, ht, hx, .inl rfl, ⟨Nat.le_refl _, Nat.le_refl _⟩, hs, fun W cur' y0 y1 y2 y3 G a1 a2 a3 a4 a5 a6 a7 a8 => ⟨y0, y1, y2, y3, G, ⟨by rw [cell_blk a1]; exact a3, by rw [cell_blk a1]; exact a4, by rw [cell_blk a1]; exact a5, by rw [cell_blk a1]; exact a6⟩, a8, id⟩⟩
theorem set_flat {Fs : List Tour} {i : Nat} (hi : i < Fs.length) (G : Tour) : ∀ H ∈ Fs.set i G, H = G ∨ H ∈ Fs := fun H h => by
  rcases List.mem_or_eq_of_mem_set h with h | h
  · exact .inr h
  · exact .inl h
theorem agg_inj {x0 x1 x2 x3 y0 y1 y2 y3 : Value} (h : Value.agg #[x0, x1, x2, x3] = .agg #[y0, y1, y2, y3]) : x0 = y0 ∧ x1 = y1 ∧ x2 = y2 ∧ x3 = y3 := by
  injection h with h; simpa using h
/-- One argument on. -/
theorem Foc.arg {w : World} {L H bx n : Nat} {F : Tour} {g o m lo hi : Nat} {F1 : Tour} {cur : Array Value} {x0 x1 x2 : Value} {aa : Option Addr} {k ac : Nat} (h : Foc w L H bx n F g o m lo hi F1 cur x0 x1 x2 (.slice aa k ac)) (i : Nat) (hi0 : i < k) :
    ∃ (g' m' lo' hi' : Nat) (F2 : Tour) (cur' : Array Value) (y0 y1 y2 y3 : Value), aa = some ⟨g', 0, none⟩ ∧ Foc w L H bx n F g' (i * 4) m' lo' hi' F2 cur' y0 y1 y2 y3 := by
  match m, h with
  | 0, h => exact h.own.elim
  | m + 1, h =>
    obtain ⟨p, an, nn, nc, aa', ac', g', cur', Fs, cut, e1, h1, h2, h3, e2, e3, h4, h5, h6, h7⟩ := h.own
    obtain ⟨q0, q1, q2, q3⟩ := agg_inj e1
    injection q3 with q3 q4 q5
    subst q3 q4 q5
    obtain ⟨ea, gl, gh, gb⟩ := h3.here (by omega)
    have hil : i < Fs.length := by omega
    obtain ⟨y0, y1, y2, y3, f, oc⟩ := h7 i hil
    have m1 := cut_le h6 i (by omega) 0 (Nat.zero_le _)
    have m2 := cut_le h6 p.k (Nat.le_refl _) (i + 1) (by omega)
    have m3 := h6 i hi0
    have gne : g ≠ g' := fun e => h.out (by subst e; exact ⟨gl, by omega⟩)
    have hsm : SmL (Fs[i] 1) := by
      have a := h.sm
      rw [e3] at a
      have b : SmL (flat Fs (1 + 1)) := fun q hq => a q (by
        obtain ⟨y, hy, rfl⟩ := List.mem_map.1 hq
        exact List.mem_map.2 ⟨y, List.mem_cons_of_mem _ hy, rfl⟩)
      obtain ⟨A, B, hAB⟩ := flat_get Fs (1 + 1) hil
      rw [hAB] at b
      exact (sml_at oc.ex 1 (1 + 1)).2 ((sml_app _ _).1 ((sml_app _ _).1 b).2).1
    refine ⟨g', m, cut i, cut (i + 1), Fs[i], cur', y0, y1, y2, y3, ea, ⟨gb, f.1, f.2.1, f.2.2.1, f.2.2.2, oc, by have := h.top; omega, by omega, .inr (by have := h.sub; omega), by have := h.sub; omega, hsm, fun W cc z0 z1 z2 z3 G a1 a2 a3 a4 a5 a6 a7 a8 => ?_⟩⟩
    have gl2 := (Array.getElem?_eq_some_iff.1 h.blk).1
    have gW : W.heap[g]? = some (.cells cur 25 (0, 0)) := (a7 g gl2 gne (fun x => h.out (by omega))).trans h.blk
    have out : ∀ q, q < w.heap.size → q ≠ g → ¬ (lo ≤ q ∧ q < hi) → W.heap[q]? = w.heap[q]? := fun q b1 b2 b3 => a7 q b1 (fun e => b3 (by subst e; exact ⟨gl, by omega⟩)) (fun x => b3 (by omega))
    have hN : OwnN W lo (cut 0) an nn nc p.nums := ⟨h2.len, h2.le, h2.top, h2.bare, h2.rng, fun h0 => by
      obtain ⟨b, cu, e, b1, b2, b3, b4⟩ := h2.here h0
      refine ⟨b, cu, e, b1, b2, (a7 b (Array.getElem?_eq_some_iff.1 b3).1 (fun e => ?_) (by omega)).trans b3, b4⟩
      subst e; rw [gb] at b3; cases b3⟩
    have kid : ∀ j (hj : j < Fs.length), j ≠ i → ∃ y0 y1 y2 y3, Four cur' j y0 y1 y2 y3 ∧ ExAt W m (.agg #[y0, y1, y2, y3]) Fs[j] := fun j hj hne => by
      obtain ⟨u0, u1, u2, u3, fj, oj⟩ := h7 j hj
      have n1 := cut_le h6 j (by omega) 0 (Nat.zero_le _)
      have n2 := cut_le h6 p.k (Nat.le_refl _) (j + 1) (by omega)
      have sep : cut (j + 1) ≤ cut i ∨ cut (i + 1) ≤ cut j := by
        rcases Nat.lt_or_gt_of_ne hne with c | c
        · exact .inl (cut_le h6 i (by omega) (j + 1) (by omega))
        · exact .inr (cut_le h6 j (by omega) (i + 1) (by omega))
      exact ⟨u0, u1, u2, u3, fj, (oj.keep (fun q b1 b2 => a7 q (by have := h.top; omega) (by omega) (by omega))).ex⟩
    have hE : ExAt W (m + 1) (.agg #[x0, x1, x2, .slice aa p.k ac]) (fun d => (p, d) :: flat (Fs.set i G) (d + 1)) := by
      refine ⟨p, an, nn, nc, aa, ac, Fs.set i G, e1, ⟨h1.1, h1.2.1, h1.2.2, hN.at_, h3.le, h3.top, h3.bare⟩, by simpa using e2, rfl, fun h0 => ⟨g', 0, ea, fun j hj => ?_⟩⟩
      have hj' : j < Fs.length := by simpa using hj
      by_cases e : j = i
      · subst e
        refine ⟨z0, z1, z2, z3, ?_, ?_, ?_, ?_, by simpa using a8⟩
        · rw [cell_blk a1, Nat.zero_add]; exact a3
        · rw [cell_blk a1, Nat.zero_add]; exact a4
        · rw [cell_blk a1, Nat.zero_add]; exact a5
        · rw [cell_blk a1, Nat.zero_add]; exact a6
      · obtain ⟨u0, u1, u2, u3, fj, xj⟩ := kid j hj' e
        refine ⟨u0, u1, u2, u3, ?_, ?_, ?_, ?_, by rw [List.getElem_set_ne (Ne.symm e)]; exact xj⟩
        · rw [cell_blk a1, Nat.zero_add, a2 _ (by omega)]; exact fj.1
        · rw [cell_blk a1, Nat.zero_add, a2 _ (by omega)]; exact fj.2.1
        · rw [cell_blk a1, Nat.zero_add, a2 _ (by omega)]; exact fj.2.2.1
        · rw [cell_blk a1, Nat.zero_add, a2 _ (by omega)]; exact fj.2.2.2
    obtain ⟨r0, r1, r2, r3, F2, hc, hx, hq⟩ := h.up W cur x0 x1 x2 _ _ gW (fun j _ => rfl) h.c0 h.c1 h.c2 h.c3 out hE
    refine ⟨r0, r1, r2, r3, F2, hc, hx, fun e => ?_⟩
    have t := (hq e).trans e3
    have hGs : ∀ H ∈ Fs.set i G, ∃ v, ExAt W m v H := fun H hH => by
      obtain ⟨j, hj, rfl⟩ := List.getElem_of_mem hH
      have hj' : j < Fs.length := by simpa using hj
      by_cases e : j = i
      · subst e; exact ⟨_, by simpa using a8⟩
      · obtain ⟨u0, u1, u2, u3, fj, xj⟩ := kid j hj' e
        exact ⟨_, by rw [List.getElem_set_ne (Ne.symm e)]; exact xj⟩
    have hFs : ∀ H ∈ Fs, ∃ v, ExAt w m v H := fun H hH => by
      obtain ⟨j, hj, rfl⟩ := List.getElem_of_mem hH
      obtain ⟨u0, u1, u2, u3, fj, oj⟩ := h7 j hj
      exact ⟨_, oj.ex⟩
    have u := ((tours_eq (p := p) (q := p) (by simpa using e2) e2 hGs hFs).1 t).2
    have u2 := congrArg (fun l : List Tour => l[i]?) u
    simpa [hil] using u2
/-- Another expression lies there. -/
def Dif (W : World) (bx n : Nat) (F : Tour) : Prop := ∃ (z0 z1 z2 z3 : Value) (F2 : Tour), (W.cell? ⟨bx, 0, none⟩ = some z0 ∧ W.cell? ⟨bx, 1, none⟩ = some z1 ∧ W.cell? ⟨bx, 2, none⟩ = some z2 ∧ W.cell? ⟨bx, 3, none⟩ = some z3) ∧ ExAt W n (.agg #[z0, z1, z2, z3]) F2 ∧ ¬ F2 = F
theorem set_other {w : World} {b k q : Nat} {u : Value} (h : q ≠ b) : (w.setCell ⟨b, k, none⟩ u).heap[q]? = w.heap[q]? := Below.heap_setCell _ _ _ _ h
/-- What may be changed of a part. -/
theorem Foc.sets {w : World} {L H bx n : Nat} {F : Tour} {g o m lo hi : Nat} {F1 : Tour} {cur : Array Value} {x0 x1 x2 x3 : Value} (h : Foc w L H bx n F g o m lo hi F1 cur x0 x1 x2 x3) :
    ∃ (p : Pt) (an : Option Addr) (nn nc : Nat) (aa : Option Addr) (ac : Nat), x0 = .int .u8 p.op ∧ x1 = .string p.nm ∧ x2 = .slice an nn nc ∧ x3 = .slice aa p.k ac ∧ (0 ≤ p.op ∧ p.op ≤ 255 ∧ p.nm.size ≤ 1048576) ∧ OwnN w L H an nn nc p.nums ∧ (p.k ≤ ac ∧ ac ≤ 9223372036854775807) ∧
      (∀ x, 0 ≤ x → x ≤ 255 → ¬ x = p.op → Dif (w.setCell ⟨g, o, none⟩ (.int .u8 x)) bx n F) ∧
      (∀ s : ByteArray, s.size ≤ maxLen → ¬ s = p.nm → Dif (w.setCell ⟨g, o + 1, none⟩ (.string s)) bx n F) ∧
      (∀ (b j : Nat) (x : Int) (hj : j < p.nums.length), an = some ⟨b, 0, none⟩ → -9223372036854775808 ≤ x → x ≤ 9223372036854775807 → ¬ x = p.nums[j] → Dif (w.setCell ⟨b, j, none⟩ (.int .i64 x)) bx n F) := by
  match m, h with
  | 0, h => exact h.own.elim
  | m + 1, h =>
    obtain ⟨p, an, nn, nc, aa, ac, g', cur', Fs, cut, e1, h1, h2, h3, e2, e3, h4, h5, h6, h7⟩ := h.own
    obtain ⟨rfl, rfl, rfl, rfl⟩ := agg_inj e1
    have m0 := cut_le h6 p.k (Nat.le_refl _) 0 (Nat.zero_le _)
    have gl := (Array.getElem?_eq_some_iff.1 h.blk).1
    have hnm : p.nm.size ≤ 1048576 := by
      have a := h.sm
      rw [e3] at a
      exact (a p (by simp)).2
    -- the part with another head
    have mk : ∀ (W : World) (p' : Pt), p'.k = p.k → HdAt W p' an nn nc aa ac → (∀ q, lo ≤ q → q < hi → cut 0 ≤ q → W.heap[q]? = w.heap[q]?) → (0 < p.k → W.heap[g']? = w.heap[g']?) → ExAt W (m + 1) (pv p' an nn nc aa ac) (fun d => (p', d) :: flat Fs (d + 1)) := fun W p' ek hd hq hr => by
      refine ⟨p', an, nn, nc, aa, ac, Fs, rfl, hd, by rw [ek]; exact e2, rfl, fun h0 => ?_⟩
      rw [ek] at h0
      obtain ⟨ea, l1, l2, gb⟩ := h3.here h0
      have gb' := (hr h0).trans gb
      refine ⟨g', 0, ea, fun j hj => ?_⟩
      obtain ⟨u0, u1, u2, u3, fj, oj⟩ := h7 j hj
      have n1 := cut_le h6 j (by omega) 0 (Nat.zero_le _)
      have n2 := cut_le h6 p.k (Nat.le_refl _) (j + 1) (by omega)
      refine ⟨u0, u1, u2, u3, ?_, ?_, ?_, ?_, (oj.keep (fun q b1 b2 => hq q (by omega) (by omega) (by omega))).ex⟩
      · rw [cell_blk gb', Nat.zero_add]; exact fj.1
      · rw [cell_blk gb', Nat.zero_add]; exact fj.2.1
      · rw [cell_blk gb', Nat.zero_add]; exact fj.2.2.1
      · rw [cell_blk gb', Nat.zero_add]; exact fj.2.2.2
    have fin : ∀ (W : World) (cur2 : Array Value) (p' : Pt) (y0 y1 : Value), y0 = .int .u8 p'.op → y1 = .string p'.nm → p'.k = p.k → ¬ p' = p → W.heap[g]? = some (.cells cur2 25 (0, 0)) → (∀ j, j < o ∨ o + 4 ≤ j → cur2[j]? = cur[j]?) → cur2[o]? = some y0 → cur2[o + 1]? = some y1 → cur2[o + 2]? = some (.slice an nn nc) → cur2[o + 3]? = some (.slice aa p.k ac) → (∀ q, q < w.heap.size → q ≠ g → ¬ (lo ≤ q ∧ q < hi) → W.heap[q]? = w.heap[q]?) → ExAt W (m + 1) (pv p' an nn nc aa ac) (fun d => (p', d) :: flat Fs (d + 1)) → Dif W bx n F := fun W cur2 p' y0 y1 ey0 ey1 ek hne a1 a2 a3 a4 a5 a6 a7 a8 => by
      subst ey0 ey1
      unfold pv at a8
      rw [ek] at a8
      obtain ⟨r0, r1, r2, r3, F2, hc, hx, hq⟩ := h.up W cur2 _ _ _ _ _ a1 a2 a3 a4 a5 a6 a7 a8
      refine ⟨r0, r1, r2, r3, F2, hc, hx, fun e => hne ?_⟩
      have t := congrFun ((hq e).trans e3) 0
      injection t with t _
      exact congrArg Prod.fst t
    refine ⟨p, an, nn, nc, aa, ac, rfl, rfl, rfl, rfl, ⟨h1.1, h1.2.1, hnm⟩, h2.mono h.sub.1 (by have := h.sub.2; omega), ⟨h3.le, h3.top⟩, fun x k0 k1 k2 => ?_, fun s k0 k2 => ?_, fun b j x hj k0 k1 k2 k3 => ?_⟩
    · have hs := set_block h.blk o (.int .u8 x)
      have so : ∀ q, q ≠ g → (w.setCell ⟨g, o, none⟩ (.int .u8 x)).heap[q]? = w.heap[q]? := fun q e => set_other e
      have hol := (Array.getElem?_eq_some_iff.1 h.c0).1
      refine fin _ _ ⟨x, p.nm, p.nums, p.k⟩ _ _ rfl rfl rfl (fun e => k2 (by rw [← e])) hs (fun j hj => by rw [Array.getElem?_setIfInBounds_ne (by omega)]) (by rw [Array.getElem?_setIfInBounds_self_of_lt hol]) (by rw [Array.getElem?_setIfInBounds_ne (by omega)]; exact h.c1) (by rw [Array.getElem?_setIfInBounds_ne (by omega)]; exact h.c2) (by rw [Array.getElem?_setIfInBounds_ne (by omega)]; exact h.c3) (fun q _ b2 _ => so q b2) (mk _ ⟨x, p.nm, p.nums, p.k⟩ rfl ⟨k0, k1, h1.2.2, (h2.keep (fun q b1 b2 => so q (fun e => h.out (by omega)))).at_, h3.le, h3.top, h3.bare⟩ (fun q b1 b2 _ => so q (fun e => h.out (by omega))) (fun h0 => so g' (fun e => by
        obtain ⟨ea, l1, l2, gb⟩ := h3.here h0
        exact h.out (by omega))))
    · have hs := set_block h.blk (o + 1) (.string s)
      have so : ∀ q, q ≠ g → (w.setCell ⟨g, o + 1, none⟩ (.string s)).heap[q]? = w.heap[q]? := fun q e => set_other e
      have hol := (Array.getElem?_eq_some_iff.1 h.c1).1
      exact fin _ _ ⟨p.op, s, p.nums, p.k⟩ _ _ rfl rfl rfl (fun e => k2 (by rw [← e])) hs (fun j hj => by rw [Array.getElem?_setIfInBounds_ne (by omega)]) (by rw [Array.getElem?_setIfInBounds_ne (by omega)]; exact h.c0) (by rw [Array.getElem?_setIfInBounds_self_of_lt hol]) (by rw [Array.getElem?_setIfInBounds_ne (by omega)]; exact h.c2) (by rw [Array.getElem?_setIfInBounds_ne (by omega)]; exact h.c3) (fun q _ b2 _ => so q b2) (mk _ ⟨p.op, s, p.nums, p.k⟩ rfl ⟨h1.1, h1.2.1, k0, (h2.keep (fun q b1 b2 => so q (fun e => h.out (by omega)))).at_, h3.le, h3.top, h3.bare⟩ (fun q b1 b2 _ => so q (fun e => h.out (by omega))) (fun h0 => so g' (fun e => by
        obtain ⟨ea, l1, l2, gb⟩ := h3.here h0
        exact h.out (by omega))))
    · have hlen := h2.len
      obtain ⟨b', cu, eb, l1, l2, hb, hcu⟩ := h2.here (by omega)
      obtain rfl : b = b' := by rw [eb] at k0; cases k0; rfl
      have hs := set_block hb j (.int .i64 x)
      have so : ∀ q, q ≠ b → (w.setCell ⟨b, j, none⟩ (.int .i64 x)).heap[q]? = w.heap[q]? := fun q e => set_other e
      have hgb : g ≠ b := fun e => h.out (by omega)
      have hjl := (Array.getElem?_eq_some_iff.1 (hcu j hj)).1
      refine fin _ cur ⟨p.op, p.nm, p.nums.set j x, p.k⟩ _ _ rfl rfl rfl (fun e => k3 ?_) ((so g hgb).trans h.blk) (fun _ _ => rfl) h.c0 h.c1 h.c2 h.c3 (fun q _ b2 b3 => so q (fun e => b3 (by omega))) (mk _ ⟨p.op, p.nm, p.nums.set j x, p.k⟩ rfl ⟨h1.1, h1.2.1, h1.2.2, ⟨by simp [hlen], h2.le, h2.top, h2.bare, fun h0 => ⟨b, 0, eb, fun i hi => ?_⟩⟩, h3.le, h3.top, h3.bare⟩ (fun q b1 b2 b3 => so q (fun e => by omega)) (fun h0 => so g' (fun e => by
        obtain ⟨ea, z1, z2, gb⟩ := h3.here h0
        rw [e, hb] at gb; cases gb)))
      · have e2 : (p.nums.set j x)[j]? = p.nums[j]? := by
          have := congrArg (fun q : Pt => q.nums[j]?) e
          exact this
        rw [List.getElem?_set_self hj, List.getElem?_eq_getElem hj] at e2
        exact Option.some.inj e2
      · have hi' : i < p.nums.length := by simpa using hi
        rw [cell_blk hs, Nat.zero_add, List.getElem_set]
        by_cases e : j = i
        · subst e
          rw [if_pos rfl, Array.getElem?_setIfInBounds_self_of_lt hjl]
          exact ⟨rfl, k1, k2⟩
        · rw [if_neg e, Array.getElem?_setIfInBounds_ne e]
          exact ⟨hcu i hi', h2.rng i hi'⟩
end Go.Proofs.YtgealkflfmeicaaDoor
