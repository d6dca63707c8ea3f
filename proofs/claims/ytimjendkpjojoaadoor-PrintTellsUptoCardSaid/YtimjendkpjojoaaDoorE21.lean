/- The document's own answer for layer 9: Depth. -/
import Derived.Test.YtimjendkpjojoaaDoorE20
import Derived.Test.YtimjendkpjojoaaDoorV4
namespace Go.Proofs.YtimjendkpjojoaaDoor
set_option linter.unusedVariables false
set_option linter.unusedSimpArgs false
open Go.ChangeShapes Go.WideShapes Go.ChangeAt Go.RowKit
def dfold (c : Int) (l : List (Pt × Int)) : Int := l.foldl (fun c x => max c x.2) c
theorem dfold_run : ∀ (l : List (Pt × Int)) (c : Int), run dStep c l = (dfold c l, true)
  | [], c => rfl
  | x :: r, c => by
    have e : dStep c x.1 x.2 = (max c x.2, true) := rfl
    rw [run_t (by rw [e]), e, dfold_run r]
    rfl
theorem dfold_app (a b : List (Pt × Int)) (c : Int) : dfold c (a ++ b) = dfold (dfold c a) b := by unfold dfold; rw [List.foldl_append]
theorem dfold_max : ∀ (l : List (Pt × Int)) (c : Int), 0 ≤ c → dfold c l = max c (dfold 0 l) ∧ 0 ≤ dfold 0 l
  | [], c, h => ⟨by show c = max c 0; omega, Int.le_refl _⟩
  | x :: r, c, h => by
    have a := dfold_max r (max c x.2) (by omega)
    have b := dfold_max r (max 0 x.2) (by omega)
    show dfold (max c x.2) r = max c (dfold (max 0 x.2) r) ∧ 0 ≤ dfold (max 0 x.2) r
    rw [a.1, b.1]
    omega
/-- The depths of an expression's parts go with the depth at which it stands. -/
theorem ex_shift {w : World} : ∀ {n : Nat} {v : Value} {F : Tour}, ExAt w n v F → ∀ d, F (d + 1) = (F d).map (fun x => (x.1, x.2 + 1))
  | 0, _, _, h => h.elim
  | n + 1, v, F, h => by
    obtain ⟨p, an, nn, nc, aa, ac, Fs, _, _, hl, rfl, hc⟩ := h
    intro d
    have key : ∀ G ∈ Fs, ∀ d, G (d + 1) = (G d).map (fun x => (x.1, x.2 + 1)) := fun G hG => by
      obtain ⟨i, hi, rfl⟩ := List.getElem_of_mem hG
      obtain ⟨b, q, _, hx⟩ := hc (by omega)
      obtain ⟨x0, x1, x2, x3, _, _, _, _, hr⟩ := hx i hi
      exact ex_shift hr
    show (p, d + 1) :: flat Fs (d + 1 + 1) = (p, d + 1) :: (flat Fs (d + 1)).map (fun x => (x.1, x.2 + 1))
    congr 1
    unfold flat
    rw [List.map_flatten, List.map_map]
    congr 1
    exact List.map_congr_left fun G hG => key G hG (d + 1)
theorem ex_deep {w : World} : ∀ {n : Nat} {v : Value} {F : Tour}, ExAt w n v F → ∀ d, ∀ x ∈ F d, d ≤ x.2 ∧ x.2 + 1 ≤ d + n
  | 0, _, _, h => h.elim
  | n + 1, v, F, h => by
    obtain ⟨p, an, nn, nc, aa, ac, Fs, _, hh, hl, rfl, hc⟩ := h
    intro d x hx
    rcases List.mem_cons.1 hx with rfl | hx
    · exact ⟨Int.le_refl _, by simp; omega⟩
    · unfold flat at hx
      obtain ⟨l, hl2, hx⟩ := List.mem_flatten.1 hx
      obtain ⟨G, hG, rfl⟩ := List.mem_map.1 hl2
      obtain ⟨i, hi, rfl⟩ := List.getElem_of_mem hG
      obtain ⟨b, q, _, hx2⟩ := hc (by omega)
      obtain ⟨x0, x1, x2, x3, _, _, _, _, hr⟩ := hx2 i hi
      have := ex_deep hr (d + 1) x hx
      omega
theorem dfold_shift : ∀ (l : List (Pt × Int)), (∀ x ∈ l, 1 ≤ x.2) → l ≠ [] → dfold 0 (l.map (fun x => (x.1, x.2 + 1))) = dfold 0 l + 1
  | [], _, h => absurd rfl h
  | [x], h, _ => by
    have := h x (by simp)
    show max 0 (x.2 + 1) = max 0 x.2 + 1
    omega
  | x :: y :: r, h, _ => by
    have ih := dfold_shift (y :: r) (fun z hz => h z (List.mem_cons_of_mem _ hz)) (by simp)
    have hx := h x (by simp)
    have e1 : dfold 0 ((x :: y :: r).map (fun x => (x.1, x.2 + 1))) = dfold (max 0 (x.2 + 1)) ((y :: r).map (fun x => (x.1, x.2 + 1))) := rfl
    have e2 : dfold 0 (x :: y :: r) = dfold (max 0 x.2) (y :: r) := rfl
    rw [e1, e2, (dfold_max _ (max 0 (x.2 + 1)) (by omega)).1, ih, (dfold_max (y :: r) (max 0 x.2) (by omega)).1]
    omega
theorem dfold_le : ∀ (l : List (Pt × Int)) (c m : Int), c ≤ m → (∀ x ∈ l, x.2 ≤ m) → dfold c l ≤ m
  | [], c, m, h, _ => h
  | x :: r, c, m, h, hx => dfold_le r (max c x.2) m (by have := hx x (by simp); omega) (fun y hy => hx y (List.mem_cons_of_mem _ hy))
theorem dep_two {w : World} {n : Nat} {v : Value} {F : Tour} (h : ExAt w n v F) : dfold 0 (F (1 + 1)) = dfold 0 (F 1) + 1 := by
  rw [ex_shift h 1]
  exact dfold_shift _ (fun x hx => (ex_deep h 1 x hx).1) (tour_ne h 1)
theorem dep_le {w : World} {n : Nat} {v : Value} {F : Tour} (h : ExAt w n v F) : 0 ≤ dfold 0 (F 1) ∧ dfold 0 (F 1) ≤ n :=
  ⟨(dfold_max _ 0 (Int.le_refl _)).2, dfold_le _ _ _ (by omega) (fun x hx => by have := ex_deep h 1 x hx; omega)⟩
set_option maxRecDepth 8000 in
set_option maxHeartbeats 2000000 in
theorem rdepth_any : ∀ (n : Nat) (v : Value) (F : Tour) (w : World), ExAt w n v F → n ≤ 1048576 → Calls Tryd.prog 38 #[v] w fun e w' => e = .returned (.int .i64 (dfold 0 (F 1))) ∧ Below w.heap.size w w'
  | 0, _, _, _, h, _ => h.elim
  | n + 1, v, F, w, h, hl => by
    have IH := Lib.hid (fun v F w h hl => rdepth_any n v F w h hl)
    obtain ⟨p, an, nn, nc, aa, ac, Fs, rfl, hh, hk, rfl, hc⟩ := h
    unfold pv
    have HC := Lib.hid hc
    have HK := Lib.hid hk
    have HLL := Lib.hid hl
    obtain ⟨R, hR⟩ : ∃ R, dfold 0 ((fun d => (p, d) :: flat Fs (d + 1)) 1) = R := ⟨_, rfl⟩
    rw [hR]
    have HR : Hid (R = max 1 (dfold 0 (flat Fs (1 + 1)))) := Lib.hid (by rw [← hR]; exact (dfold_max _ 1 (by omega)).1)
    have k0 : (0 : Int) ≤ (p.k : Int) := by omega
    have k1 : (p.k : Int) ≤ 9223372036854775807 := by have := hh.le; have := hh.top; omega
    obtain ⟨b, hb⟩ : ∃ z, w.heap.size = z := ⟨_, rfl⟩
    obtain ⟨w1, hw1⟩ : ∃ z, w.alloc (.cells #[.int .u8 p.op, .string p.nm, .slice an nn nc, .slice aa p.k ac] 25) = z := ⟨_, rfl⟩
    have HX : Hid (Bx1 w w1 b #[.int .u8 p.op, .string p.nm, .slice an nn nc, .slice aa p.k ac]) := Lib.hid ⟨by rw [← hw1]; exact (Below.refl _ w).alloc (Nat.le_refl _) _, by rw [← hw1, ← hb, al_new]⟩
    clear hc hk hl hR hh
    have e3 := cell_blk HX.out.box 3
    go_enter Tryd.func38, Tryd.ntmps38
    go_upto_region 3 with fail
    clear hw1 hb e3
    go_loopw [3, 4, 5] (fun s3 ii s5 wr => ∃ (j : Nat) (c : Int), j ≤ p.k ∧ ii = .int .i64 j ∧ s3 = .int .i64 c ∧ Hid (c + 1 = max 1 (dfold 0 (flat (Fs.take j) (1 + 1))) ∧ 0 ≤ c ∧ c ≤ 1048576) ∧ Hid (Bx1 w wr b #[.int .u8 p.op, .string p.nm, .slice an nn nc, .slice aa p.k ac])) (fun s3 ii s5 _ => p.k - (intOf ii).toNat)
    case atStart => exact ⟨0, 0, Nat.zero_le _, rfl, rfl, Lib.hid ⟨rfl, by omega, by omega⟩, HX⟩
    case round =>
      clear HX
      obtain ⟨j, c, hj, rfl, rfl, HCC, HX⟩ := hrel
      have i0 : (0 : Int) ≤ (j : Int) := by omega
      have e3 := cell_blk HX.out.box 3
      have c0 : 0 ≤ c := HCC.out.2.1
      have c1 : c ≤ 1048576 := HCC.out.2.2
      by_cases jlt : j < p.k
      · have i1 : (j : Int) < p.k := by omega
        obtain ⟨q0, q, rfl, hx⟩ := HC.out (by omega)
        obtain ⟨x0, x1, x2, x3, g0, g1, g2, g3, hr⟩ := hx j (by rw [HK.out]; exact jlt)
        obtain ⟨p2, an2, nn2, nc2, aa2, ac2, ex, hh2⟩ := hr.head
        cases ex
        obtain ⟨G, hG⟩ : ∃ G : Tour, Fs[j]'(by rw [HK.out]; exact jlt) = G := ⟨_, rfl⟩
        rw [hG] at hr
        have g0 := cell_keep g0 HX.out.bw
        have g1 := cell_keep g1 HX.out.bw
        have g2 := cell_keep g2 HX.out.bw
        have g3 := cell_keep g3 HX.out.bw
        have HTK : Hid (flat (Fs.take (j + 1)) (1 + 1) = flat (Fs.take j) (1 + 1) ++ G (1 + 1)) := Lib.hid (by rw [flat_take Fs (1 + 1) (by rw [HK.out]; exact jlt), hG])
        have HIH := Lib.hid (IH.out _ G wr (hr.keep HX.out.bw) (by have := HLL.out; omega))
        have HGL := Lib.hid (And.intro (dep_two hr) (dep_le hr))
        obtain ⟨L, hL⟩ : ∃ L, dfold 0 (G 1) = L := ⟨_, rfl⟩
        rw [hL] at HIH HGL
        have l0 : 0 ≤ L := HGL.out.2.1
        have l1 : L ≤ 1048576 := by have := HGL.out.2.2; have := HLL.out; omega
        clear hr hx hh2 hG hL
        go_wp2_with fail
        (with_reducible refine HIH.out.mono ?_)
        rintro e w5 ⟨rfl, q⟩
        have HX := Lib.hid (HX.out.keep q)
        have HC2 : Hid (max c L + 1 = max 1 (dfold 0 (flat (Fs.take (j + 1)) (1 + 1))) ∧ 0 ≤ max c L ∧ max c L ≤ 1048576) := Lib.hid (by
          have a := HCC.out.1
          have nn := (dfold_max (flat (Fs.take j) (1 + 1)) 0 (Int.le_refl _)).2
          rw [HTK.out, dfold_app, (dfold_max (G (1 + 1)) _ nn).1, HGL.out.1]
          omega)
        clear q HIH g0 g1 g2 g3 e3
        by_cases cl : c < L
        · have em : max c L = L := by omega
          rw [em] at HC2
          go_wp2
          go_roundw
          case rel => exact ⟨j + 1, L, by omega, by go_num, rfl, HC2, HX⟩
          case measure => simp [intOf]; omega
        · have em : max c L = c := by omega
          rw [em] at HC2
          go_wp2
          go_roundw
          case rel => exact ⟨j + 1, c, by omega, by go_num, rfl, HC2, HX⟩
          case measure => simp [intOf]; omega
      · have i1 : (p.k : Int) ≤ (j : Int) := by omega
        obtain rfl : R = c + 1 := by
          have a := HCC.out.1
          rw [List.take_of_length_le (by rw [HK.out]; omega)] at a
          exact HR.out.trans a.symm
        go_wp2
        go_returns
        exact ⟨rfl, HX.out.bw⟩
end Go.Proofs.YtimjendkpjojoaaDoor
