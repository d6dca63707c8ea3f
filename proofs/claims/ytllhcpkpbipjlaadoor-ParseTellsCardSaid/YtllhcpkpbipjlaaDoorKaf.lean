/- E20, E21, E22, E23, E25 in one. -/
import Derived.Test.YtllhcpkpbipjlaaDoorKj
namespace Go.Proofs.YtllhcpkpbipjlaaDoor
set_option linter.unusedVariables false
set_option linter.unusedSimpArgs false
open Go.ChangeShapes Go.WideShapes Go.ChangeAt Go.RowKit
theorem flat_take (Fs : List Tour) (d : Int) {j : Nat} (h : j < Fs.length) : flat (Fs.take (j + 1)) d = flat (Fs.take j) d ++ Fs[j] d := by
  rw [List.take_succ_eq_append_getElem h, flat_snoc]
theorem flat_len_take (Fs : List Tour) (d : Int) (j : Nat) : (flat (Fs.take j) d).length ≤ (flat Fs d).length := by
  have : (flat Fs d).length = (flat (Fs.take j) d).length + (flat (Fs.drop j) d).length := by rw [← List.length_append, ← flat_app, List.take_append_drop]
  omega
/-- A part in its box. -/
structure Bx1 (w0 w : World) (b : Nat) (cs : Array Value) : Prop where
  bw : Below w0.heap.size w0 w
  box : w.heap[b]? = some (.cells cs 31 (0, 0))
theorem Bx1.keep {w0 w w' : World} {b : Nat} {cs : Array Value} (h : Bx1 w0 w b cs) (q : Below w.heap.size w w') : Bx1 w0 w' b cs := ⟨h.bw.trans (q.mono h.bw.size), (q.block b (Array.getElem?_eq_some_iff.1 h.box).1).trans h.box⟩
set_option maxRecDepth 8000 in
set_option maxHeartbeats 2000000 in
theorem rcount_any : ∀ (n : Nat) (v : Value) (F : Tour) (w : World), ExAt w n v F → (F 1).length ≤ 1048576 → Calls Tryd.prog 19 #[v] w fun e w' => e = .returned (.int .i64 ((F 1).length : Int)) ∧ Below w.heap.size w w'
  | 0, _, _, _, h, _ => h.elim
  | n + 1, v, F, w, h, hl => by
    have IH := Lib.hid (fun v F w h hl => rcount_any n v F w h hl)
    obtain ⟨p, an, nn, nc, aa, ac, Fs, rfl, hh, hk, rfl, hc⟩ := h
    unfold pv
    have HC := Lib.hid hc
    have HK := Lib.hid hk
    have hl2 : (flat Fs (1 + 1)).length + 1 ≤ 1048576 := by simpa using hl
    have HLL := Lib.hid hl2
    obtain ⟨R, hR⟩ : ∃ R, (((fun d => (p, d) :: flat Fs (d + 1)) 1 : List (Pt × Int))).length = R := ⟨_, rfl⟩
    rw [hR]
    have HR : Hid ((R : Nat) = (flat Fs (1 + 1)).length + 1) := Lib.hid (by rw [← hR]; simp)
    have k0 : (0 : Int) ≤ (p.k : Int) := by omega
    have k1 : (p.k : Int) ≤ 9223372036854775807 := by have := hh.le; have := hh.top; omega
    obtain ⟨b, hb⟩ : ∃ z, w.heap.size = z := ⟨_, rfl⟩
    obtain ⟨w1, hw1⟩ : ∃ z, w.alloc (.cells #[.int .u8 p.op, .string p.nm, .slice an nn nc, .slice aa p.k ac] 31) = z := ⟨_, rfl⟩
    have HX : Hid (Bx1 w w1 b #[.int .u8 p.op, .string p.nm, .slice an nn nc, .slice aa p.k ac]) := Lib.hid ⟨by rw [← hw1]; exact (Below.refl _ w).alloc (Nat.le_refl _) _, by rw [← hw1, ← hb, al_new]⟩
    clear hc hk hl hl2 hR hh
    have e3 := cell_blk HX.out.box 3
    go_enter Tryd.func19, Tryd.ntmps19
    go_upto_region 3 with fail
    clear hw1 hb e3
    go_loopw [3, 4] (fun s3 ii wr => ∃ (j : Nat) (c : Nat), j ≤ p.k ∧ ii = .int .i64 j ∧ s3 = .int .i64 c ∧ Hid (c = (flat (Fs.take j) (1 + 1)).length + 1) ∧ Hid (Bx1 w wr b #[.int .u8 p.op, .string p.nm, .slice an nn nc, .slice aa p.k ac])) (fun s3 ii _ => p.k - (intOf ii).toNat)
    case atStart => exact ⟨0, 1, Nat.zero_le _, rfl, rfl, Lib.hid rfl, HX⟩
    case round =>
      clear HX
      obtain ⟨j, c, hj, rfl, rfl, HCC, HX⟩ := hrel
      have i0 : (0 : Int) ≤ (j : Int) := by omega
      have e3 := cell_blk HX.out.box 3
      have c0 : (0 : Int) ≤ (c : Int) := by omega
      have c1 : (c : Int) ≤ 1048576 := by
        have a := HCC.out
        have b := flat_len_take Fs (1 + 1) j
        have d := HLL.out
        omega
      by_cases jlt : j < p.k
      · have i1 : (j : Int) < p.k := by omega
        obtain ⟨q0, q, rfl, hx⟩ := HC.out (by omega)
        obtain ⟨x0, x1, x2, x3, g0, g1, g2, g3, hr⟩ := hx j (by rw [HK.out]; exact jlt)
        obtain ⟨p2, an2, nn2, nc2, aa2, ac2, ex, hh2⟩ := hr.head
        cases ex
        obtain ⟨G, hG⟩ : ∃ G : Tour, Fs[j]'(by rw [HK.out]; exact jlt) = G := ⟨_, rfl⟩
        rw [hG] at hr
        have g0 := cell_keep g0 HX.out.bw
        have g1 := cell_keep g1 HX.out.bw
        have g2 := cell_keep g2 HX.out.bw
        have g3 := cell_keep g3 HX.out.bw
        have HTK : Hid (flat (Fs.take (j + 1)) (1 + 1) = flat (Fs.take j) (1 + 1) ++ G (1 + 1)) := Lib.hid (by rw [flat_take Fs (1 + 1) (by rw [HK.out]; exact jlt), hG])
        have hgl : (G 1).length ≤ 1048576 := by
          have a := ex_len hr 1 (1 + 1)
          have b := congrArg List.length HTK.out
          rw [List.length_append] at b
          have d := flat_len_take Fs (1 + 1) (j + 1)
          have e := HLL.out
          omega
        have HIH := Lib.hid (IH.out _ G wr (hr.keep HX.out.bw) hgl)
        have HGL := Lib.hid (ex_len hr 1 (1 + 1))
        obtain ⟨L, hL⟩ : ∃ L, (G 1).length = L := ⟨_, rfl⟩
        rw [hL] at HIH HGL hgl
        have l0 : (0 : Int) ≤ (L : Int) := by omega
        have l1 : (L : Int) ≤ 1048576 := by omega
        clear hr hx hh2 hG hL hgl
        go_wp2_with fail
        (with_reducible refine HIH.out.mono ?_)
        rintro e w5 ⟨rfl, q⟩
        have HX := Lib.hid (HX.out.keep q)
        have HC2 : Hid (c + L = (flat (Fs.take (j + 1)) (1 + 1)).length + 1) := Lib.hid (by
          rw [HTK.out, List.length_append, HCC.out, ← HGL.out]; omega)
        clear q HIH g0 g1 g2 g3 e3
        go_wp2
        go_roundw
        case rel => exact ⟨j + 1, c + L, by omega, by go_num, by go_num, HC2, HX⟩
        case measure => simp [intOf]; omega
      · have i1 : (p.k : Int) ≤ (j : Int) := by omega
        obtain rfl : R = c := by
          have a := HCC.out
          rw [List.take_of_length_le (by rw [HK.out]; omega)] at a
          exact HR.out.trans a.symm
        go_wp2
        go_returns
        exact ⟨rfl, HX.out.bw⟩
def dfold (c : Int) (l : List (Pt × Int)) : Int := l.foldl (fun c x => max c x.2) c
theorem dfold_run : ∀ (l : List (Pt × Int)) (c : Int), run dStep c l = (dfold c l, true)
  | [], c => rfl
  | x :: r, c => by
    have e : dStep c x.1 x.2 = (max c x.2, true) := rfl
    rw [run_t (by rw [e]), e, dfold_run r]
    rfl
theorem dfold_app (a b : List (Pt × Int)) (c : Int) : dfold c (a ++ b) = dfold (dfold c a) b := by unfold dfold; rw [List.foldl_append]
theorem dfold_max : ∀ (l : List (Pt × Int)) (c : Int), 0 ≤ c → dfold c l = max c (dfold 0 l) ∧ 0 ≤ dfold 0 l
  | [], c, h => ⟨by show c = max c 0; omega, Int.le_refl _⟩
  | x :: r, c, h => by
    have a := dfold_max r (max c x.2) (by omega)
    have b := dfold_max r (max 0 x.2) (by omega)
    show dfold (max c x.2) r = max c (dfold (max 0 x.2) r) ∧ 0 ≤ dfold (max 0 x.2) r
    rw [a.1, b.1]
    omega
/-- The depths of an expression's parts go with the depth at which it stands. -/
theorem ex_shift {w : World} : ∀ {n : Nat} {v : Value} {F : Tour}, ExAt w n v F → ∀ d, F (d + 1) = (F d).map (fun x => (x.1, x.2 + 1))
  | 0, _, _, h => h.elim
  | n + 1, v, F, h => by
    obtain ⟨p, an, nn, nc, aa, ac, Fs, _, _, hl, rfl, hc⟩ := h
    intro d
    have key : ∀ G ∈ Fs, ∀ d, G (d + 1) = (G d).map (fun x => (x.1, x.2 + 1)) := fun G hG => by
      obtain ⟨i, hi, rfl⟩ := List.getElem_of_mem hG
      obtain ⟨b, q, _, hx⟩ := hc (by omega)
      obtain ⟨x0, x1, x2, x3, _, _, _, _, hr⟩ := hx i hi
      exact ex_shift hr
    show (p, d + 1) :: flat Fs (d + 1 + 1) = (p, d + 1) :: (flat Fs (d + 1)).map (fun x => (x.1, x.2 + 1))
    congr 1
    unfold flat
    rw [List.map_flatten, List.map_map]
    congr 1
    exact List.map_congr_left fun G hG => key G hG (d + 1)
theorem ex_deep {w : World} : ∀ {n : Nat} {v : Value} {F : Tour}, ExAt w n v F → ∀ d, ∀ x ∈ F d, d ≤ x.2 ∧ x.2 + 1 ≤ d + n
  | 0, _, _, h => h.elim
  | n + 1, v, F, h => by
    obtain ⟨p, an, nn, nc, aa, ac, Fs, _, hh, hl, rfl, hc⟩ := h
    intro d x hx
    rcases List.mem_cons.1 hx with rfl | hx
    · exact ⟨Int.le_refl _, by simp; omega⟩
    · unfold flat at hx
      obtain ⟨l, hl2, hx⟩ := List.mem_flatten.1 hx
      obtain ⟨G, hG, rfl⟩ := List.mem_map.1 hl2
      obtain ⟨i, hi, rfl⟩ := List.getElem_of_mem hG
      obtain ⟨b, q, _, hx2⟩ := hc (by omega)
      obtain ⟨x0, x1, x2, x3, _, _, _, _, hr⟩ := hx2 i hi
      have := ex_deep hr (d + 1) x hx
      omega
theorem dfold_shift : ∀ (l : List (Pt × Int)), (∀ x ∈ l, 1 ≤ x.2) → l ≠ [] → dfold 0 (l.map (fun x => (x.1, x.2 + 1))) = dfold 0 l + 1
  | [], _, h => absurd rfl h
  | [x], h, _ => by
    have := h x (by simp)
    show max 0 (x.2 + 1) = max 0 x.2 + 1
    omega
  | x :: y :: r, h, _ => by
    have ih := dfold_shift (y :: r) (fun z hz => h z (List.mem_cons_of_mem _ hz)) (by simp)
    have hx := h x (by simp)
    have e1 : dfold 0 ((x :: y :: r).map (fun x => (x.1, x.2 + 1))) = dfold (max 0 (x.2 + 1)) ((y :: r).map (fun x => (x.1, x.2 + 1))) := rfl
    have e2 : dfold 0 (x :: y :: r) = dfold (max 0 x.2) (y :: r) := rfl
    rw [e1, e2, (dfold_max _ (max 0 (x.2 + 1)) (by omega)).1, ih, (dfold_max (y :: r) (max 0 x.2) (by omega)).1]
    omega
theorem dfold_le : ∀ (l : List (Pt × Int)) (c m : Int), c ≤ m → (∀ x ∈ l, x.2 ≤ m) → dfold c l ≤ m
  | [], c, m, h, _ => h
  | x :: r, c, m, h, hx => dfold_le r (max c x.2) m (by have := hx x (by simp); omega) (fun y hy => hx y (List.mem_cons_of_mem _ hy))
theorem dep_two {w : World} {n : Nat} {v : Value} {F : Tour} (h : ExAt w n v F) : dfold 0 (F (1 + 1)) = dfold 0 (F 1) + 1 := by
  rw [ex_shift h 1]
  exact dfold_shift _ (fun x hx => (ex_deep h 1 x hx).1) (tour_ne h 1)
theorem dep_le {w : World} {n : Nat} {v : Value} {F : Tour} (h : ExAt w n v F) : 0 ≤ dfold 0 (F 1) ∧ dfold 0 (F 1) ≤ n :=
  ⟨(dfold_max _ 0 (Int.le_refl _)).2, dfold_le _ _ _ (by omega) (fun x hx => by have := ex_deep h 1 x hx; omega)⟩
set_option maxRecDepth 8000 in
set_option maxHeartbeats 2000000 in
theorem rdepth_any : ∀ (n : Nat) (v : Value) (F : Tour) (w : World), ExAt w n v F → n ≤ 1048576 → Calls Tryd.prog 43 #[v] w fun e w' => e = .returned (.int .i64 (dfold 0 (F 1))) ∧ Below w.heap.size w w'
  | 0, _, _, _, h, _ => h.elim
  | n + 1, v, F, w, h, hl => by
    have IH := Lib.hid (fun v F w h hl => rdepth_any n v F w h hl)
    obtain ⟨p, an, nn, nc, aa, ac, Fs, rfl, hh, hk, rfl, hc⟩ := h
    unfold pv
    have HC := Lib.hid hc
    have HK := Lib.hid hk
    have HLL := Lib.hid hl
    obtain ⟨R, hR⟩ : ∃ R, dfold 0 ((fun d => (p, d) :: flat Fs (d + 1)) 1) = R := ⟨_, rfl⟩
    rw [hR]
    have HR : Hid (R = max 1 (dfold 0 (flat Fs (1 + 1)))) := Lib.hid (by rw [← hR]; exact (dfold_max _ 1 (by omega)).1)
    have k0 : (0 : Int) ≤ (p.k : Int) := by omega
    have k1 : (p.k : Int) ≤ 9223372036854775807 := by have := hh.le; have := hh.top; omega
    obtain ⟨b, hb⟩ : ∃ z, w.heap.size = z := ⟨_, rfl⟩
    obtain ⟨w1, hw1⟩ : ∃ z, w.alloc (.cells #[.int .u8 p.op, .string p.nm, .slice an nn nc, .slice aa p.k ac] 31) = z := ⟨_, rfl⟩
    have HX : Hid (Bx1 w w1 b #[.int .u8 p.op, .string p.nm, .slice an nn nc, .slice aa p.k ac]) := Lib.hid ⟨by rw [← hw1]; exact (Below.refl _ w).alloc (Nat.le_refl _) _, by rw [← hw1, ← hb, al_new]⟩
    clear hc hk hl hR hh
    have e3 := cell_blk HX.out.box 3
    go_enter Tryd.func43, Tryd.ntmps43
    go_upto_region 3 with fail
    clear hw1 hb e3
    go_loopw [3, 4, 5] (fun s3 ii s5 wr => ∃ (j : Nat) (c : Int), j ≤ p.k ∧ ii = .int .i64 j ∧ s3 = .int .i64 c ∧ Hid (c + 1 = max 1 (dfold 0 (flat (Fs.take j) (1 + 1))) ∧ 0 ≤ c ∧ c ≤ 1048576) ∧ Hid (Bx1 w wr b #[.int .u8 p.op, .string p.nm, .slice an nn nc, .slice aa p.k ac])) (fun s3 ii s5 _ => p.k - (intOf ii).toNat)
    case atStart => exact ⟨0, 0, Nat.zero_le _, rfl, rfl, Lib.hid ⟨rfl, by omega, by omega⟩, HX⟩
    case round =>
      clear HX
      obtain ⟨j, c, hj, rfl, rfl, HCC, HX⟩ := hrel
      have i0 : (0 : Int) ≤ (j : Int) := by omega
      have e3 := cell_blk HX.out.box 3
      have c0 : 0 ≤ c := HCC.out.2.1
      have c1 : c ≤ 1048576 := HCC.out.2.2
      by_cases jlt : j < p.k
      · have i1 : (j : Int) < p.k := by omega
        obtain ⟨q0, q, rfl, hx⟩ := HC.out (by omega)
        obtain ⟨x0, x1, x2, x3, g0, g1, g2, g3, hr⟩ := hx j (by rw [HK.out]; exact jlt)
        obtain ⟨p2, an2, nn2, nc2, aa2, ac2, ex, hh2⟩ := hr.head
        cases ex
        obtain ⟨G, hG⟩ : ∃ G : Tour, Fs[j]'(by rw [HK.out]; exact jlt) = G := ⟨_, rfl⟩
        rw [hG] at hr
        have g0 := cell_keep g0 HX.out.bw
        have g1 := cell_keep g1 HX.out.bw
        have g2 := cell_keep g2 HX.out.bw
        have g3 := cell_keep g3 HX.out.bw
        have HTK : Hid (flat (Fs.take (j + 1)) (1 + 1) = flat (Fs.take j) (1 + 1) ++ G (1 + 1)) := Lib.hid (by rw [flat_take Fs (1 + 1) (by rw [HK.out]; exact jlt), hG])
        have HIH := Lib.hid (IH.out _ G wr (hr.keep HX.out.bw) (by have := HLL.out; omega))
        have HGL := Lib.hid (And.intro (dep_two hr) (dep_le hr))
        obtain ⟨L, hL⟩ : ∃ L, dfold 0 (G 1) = L := ⟨_, rfl⟩
        rw [hL] at HIH HGL
        have l0 : 0 ≤ L := HGL.out.2.1
        have l1 : L ≤ 1048576 := by have := HGL.out.2.2; have := HLL.out; omega
        clear hr hx hh2 hG hL
        go_wp2_with fail
        (with_reducible refine HIH.out.mono ?_)
        rintro e w5 ⟨rfl, q⟩
        have HX := Lib.hid (HX.out.keep q)
        have HC2 : Hid (max c L + 1 = max 1 (dfold 0 (flat (Fs.take (j + 1)) (1 + 1))) ∧ 0 ≤ max c L ∧ max c L ≤ 1048576) := Lib.hid (by
          have a := HCC.out.1
          have nn := (dfold_max (flat (Fs.take j) (1 + 1)) 0 (Int.le_refl _)).2
          rw [HTK.out, dfold_app, (dfold_max (G (1 + 1)) _ nn).1, HGL.out.1]
          omega)
        clear q HIH g0 g1 g2 g3 e3
        by_cases cl : c < L
        · have em : max c L = L := by omega
          rw [em] at HC2
          go_wp2
          go_roundw
          case rel => exact ⟨j + 1, L, by omega, by go_num, rfl, HC2, HX⟩
          case measure => simp [intOf]; omega
        · have em : max c L = c := by omega
          rw [em] at HC2
          go_wp2
          go_roundw
          case rel => exact ⟨j + 1, c, by omega, by go_num, rfl, HC2, HX⟩
          case measure => simp [intOf]; omega
      · have i1 : (p.k : Int) ≤ (j : Int) := by omega
        obtain rfl : R = c + 1 := by
          have a := HCC.out.1
          rw [List.take_of_length_le (by rw [HK.out]; omega)] at a
          exact HR.out.trans a.symm
        go_wp2
        go_returns
        exact ⟨rfl, HX.out.bw⟩

theorem kind_0 (w : World) : Calls Tryd.prog 57 #[.int .u8 0] w fun e w' => e = .returned (.tuple #[.int .i64 0, .int .i64 0]) ∧ w = w' := by
  go_enter Tryd.func57, Tryd.ntmps57
  go_wp2
  go_returns
  exact ⟨rfl, rfl⟩
theorem kind_1 (w : World) : Calls Tryd.prog 57 #[.int .u8 1] w fun e w' => e = .returned (.tuple #[.int .i64 1, .int .i64 1]) ∧ w = w' := by
  go_enter Tryd.func57, Tryd.ntmps57
  go_wp2
  go_returns
  exact ⟨rfl, rfl⟩
theorem kind_2 (w : World) : Calls Tryd.prog 57 #[.int .u8 2] w fun e w' => e = .returned (.tuple #[.int .i64 1, .int .i64 1]) ∧ w = w' := by
  go_enter Tryd.func57, Tryd.ntmps57
  go_wp2
  go_returns
  exact ⟨rfl, rfl⟩
theorem kind_3 (w : World) : Calls Tryd.prog 57 #[.int .u8 3] w fun e w' => e = .returned (.tuple #[.int .i64 2, .int .i64 1]) ∧ w = w' := by
  go_enter Tryd.func57, Tryd.ntmps57
  go_wp2
  go_returns
  exact ⟨rfl, rfl⟩
theorem kind_4 (w : World) : Calls Tryd.prog 57 #[.int .u8 4] w fun e w' => e = .returned (.tuple #[.int .i64 3, .int .i64 2]) ∧ w = w' := by
  go_enter Tryd.func57, Tryd.ntmps57
  go_wp2
  go_returns
  exact ⟨rfl, rfl⟩
theorem kind_5 (w : World) : Calls Tryd.prog 57 #[.int .u8 5] w fun e w' => e = .returned (.tuple #[.int .i64 0, .int .i64 2]) ∧ w = w' := by
  go_enter Tryd.func57, Tryd.ntmps57
  go_wp2
  go_returns
  exact ⟨rfl, rfl⟩
theorem kind_6 (w : World) : Calls Tryd.prog 57 #[.int .u8 6] w fun e w' => e = .returned (.tuple #[.int .i64 0, .int .i64 2]) ∧ w = w' := by
  go_enter Tryd.func57, Tryd.ntmps57
  go_wp2
  go_returns
  exact ⟨rfl, rfl⟩
theorem kind_7 (w : World) : Calls Tryd.prog 57 #[.int .u8 7] w fun e w' => e = .returned (.tuple #[.int .i64 2, .int .i64 2]) ∧ w = w' := by
  go_enter Tryd.func57, Tryd.ntmps57
  go_wp2
  go_returns
  exact ⟨rfl, rfl⟩
theorem kind_8 (w : World) : Calls Tryd.prog 57 #[.int .u8 8] w fun e w' => e = .returned (.tuple #[.int .i64 0, .int .i64 2]) ∧ w = w' := by
  go_enter Tryd.func57, Tryd.ntmps57
  go_wp2
  go_returns
  exact ⟨rfl, rfl⟩
theorem kind_9 (w : World) : Calls Tryd.prog 57 #[.int .u8 9] w fun e w' => e = .returned (.tuple #[.int .i64 2, .int .i64 2]) ∧ w = w' := by
  go_enter Tryd.func57, Tryd.ntmps57
  go_wp2
  go_returns
  exact ⟨rfl, rfl⟩
theorem kind_10 (w : World) : Calls Tryd.prog 57 #[.int .u8 10] w fun e w' => e = .returned (.tuple #[.int .i64 0, .int .i64 2]) ∧ w = w' := by
  go_enter Tryd.func57, Tryd.ntmps57
  go_wp2
  go_returns
  exact ⟨rfl, rfl⟩
theorem kind_11 (w : World) : Calls Tryd.prog 57 #[.int .u8 11] w fun e w' => e = .returned (.tuple #[.int .i64 0, .int .i64 2]) ∧ w = w' := by
  go_enter Tryd.func57, Tryd.ntmps57
  go_wp2
  go_returns
  exact ⟨rfl, rfl⟩
theorem kind_12 (w : World) : Calls Tryd.prog 57 #[.int .u8 12] w fun e w' => e = .returned (.tuple #[.int .i64 0, .int .i64 2]) ∧ w = w' := by
  go_enter Tryd.func57, Tryd.ntmps57
  go_wp2
  go_returns
  exact ⟨rfl, rfl⟩
theorem kind_in (i : Nat) (w : World) (h : i < 13) : Calls Tryd.prog 57 #[.int .u8 (i : Int)] w fun e w' => e = .returned (.tuple #[.int .i64 (nN i), .int .i64 (aN i)]) ∧ w = w' := by
  match i, h with
  | 0, _ => exact kind_0 w
  | 1, _ => exact kind_1 w
  | 2, _ => exact kind_2 w
  | 3, _ => exact kind_3 w
  | 4, _ => exact kind_4 w
  | 5, _ => exact kind_5 w
  | 6, _ => exact kind_6 w
  | 7, _ => exact kind_7 w
  | 8, _ => exact kind_8 w
  | 9, _ => exact kind_9 w
  | 10, _ => exact kind_10 w
  | 11, _ => exact kind_11 w
  | 12, _ => exact kind_12 w
theorem kind_out (o : Int) (w : World) (h : 12 < o) : Calls Tryd.prog 57 #[.int .u8 o] w fun e w' => e = .returned (.tuple #[.int .i64 (-1), .int .i64 0]) ∧ w = w' := by
  have t0 : (o == 0) = false := by simp; omega
  have t1 : (o == 1) = false := by simp; omega
  have t2 : (o == 2) = false := by simp; omega
  have t3 : (o == 3) = false := by simp; omega
  have t4 : (o == 4) = false := by simp; omega
  have t5 : (o == 5) = false := by simp; omega
  have t6 : (o == 6) = false := by simp; omega
  have t7 : (o == 7) = false := by simp; omega
  have t8 : (o == 8) = false := by simp; omega
  have t9 : (o == 9) = false := by simp; omega
  have t10 : (o == 10) = false := by simp; omega
  have t11 : (o == 11) = false := by simp; omega
  have t12 : (o == 12) = false := by simp; omega
  go_enter Tryd.func57, Tryd.ntmps57
  go_wp2
  go_returns
  exact ⟨rfl, rfl⟩
theorem rnums_in (i : Nat) (w : World) (h : i < 13) : Calls Tryd.prog 52 #[.int .u8 (i : Int)] w fun e w' => e = .returned (.tuple #[.int .i64 (nN i), .bool true]) ∧ w = w' := by
  have HK := Lib.hid (kind_in i w h)
  have b := nN_bd i h
  obtain ⟨x, hx⟩ : ∃ x, nN i = x := ⟨_, rfl⟩
  rw [hx] at HK b ⊢
  have b0 := b.1
  have b1 := b.2
  clear hx b
  go_enter Tryd.func52, Tryd.ntmps52
  go_wp2_with fail
  (with_reducible refine HK.out.mono ?_)
  rintro e w' ⟨rfl, rfl⟩
  go_wp2
  go_returns
  exact ⟨rfl, rfl⟩
theorem rnums_out (o : Int) (w : World) (h : 12 < o) : Calls Tryd.prog 52 #[.int .u8 o] w fun e w' => e = .returned (.tuple #[.int .i64 0, .bool false]) ∧ w = w' := by
  have HK := Lib.hid (kind_out o w h)
  go_enter Tryd.func52, Tryd.ntmps52
  go_wp2_with fail
  (with_reducible refine HK.out.mono ?_)
  rintro e w' ⟨rfl, rfl⟩
  go_wp2
  go_returns
  exact ⟨rfl, rfl⟩
theorem rargs_in (i : Nat) (w : World) (h : i < 13) : Calls Tryd.prog 53 #[.int .u8 (i : Int)] w fun e w' => e = .returned (.int .i64 (aN i)) ∧ w = w' := by
  have HK := Lib.hid (kind_in i w h)
  go_enter Tryd.func53, Tryd.ntmps53
  go_wp2_with fail
  (with_reducible refine HK.out.mono ?_)
  rintro e w' ⟨rfl, rfl⟩
  go_wp2
  go_returns
  exact ⟨rfl, rfl⟩
theorem rargs_out (o : Int) (w : World) (h : 12 < o) : Calls Tryd.prog 53 #[.int .u8 o] w fun e w' => e = .returned (.int .i64 0) ∧ w = w' := by
  have HK := Lib.hid (kind_out o w h)
  go_enter Tryd.func53, Tryd.ntmps53
  go_wp2_with fail
  (with_reducible refine HK.out.mono ?_)
  rintro e w' ⟨rfl, rfl⟩
  go_wp2
  go_returns
  exact ⟨rfl, rfl⟩
theorem rnm_long (s : ByteArray) (w : World) (z : s.toList.isEmpty = false) (h : 30 < (s.size : Int)) :
    Calls Tryd.prog 45 #[.string s] w fun e w' => e = .returned (.bool false) ∧ w = w' := by
  have z0 : ¬ s.toList = [] := by simpa using z
  go_enter Tryd.func45, Tryd.ntmps45
  go_wp2
  go_returns
  exact ⟨rfl, rfl⟩
theorem rnm_empty (w : World) :
    Calls Tryd.prog 45 #[.string ⟨#[]⟩] w fun e w' => e = .returned (.bool false) ∧ w = w' := by
  go_enter Tryd.func45, Tryd.ntmps45
  go_wp2
  go_returns
  exact ⟨rfl, rfl⟩
theorem rnm_digit (s : ByteArray) (w : World) (z : s.toList.isEmpty = false) (h : (s.size : Int) ≤ 30) (h0 : 0 < s.size) (d1 : 48 ≤ ((s[0]'h0).toNat : Int)) (d2 : ((s[0]'h0).toNat : Int) ≤ 57) :
    Calls Tryd.prog 45 #[.string s] w fun e w' => e = .returned (.bool false) ∧ w = w' := by
  have z0 : ¬ s.toList = [] := by simpa using z
  obtain ⟨c, hc⟩ : ∃ c : Int, ((s[0]'h0).toNat : Int) = c := ⟨_, rfl⟩
  rw [hc] at d1 d2
  go_enter Tryd.func45, Tryd.ntmps45
  go_wp2
  go_returns
  exact ⟨rfl, rfl⟩
set_option maxHeartbeats 2000000 in
theorem rnm_loop (s : ByteArray) (w : World) (z : s.toList.isEmpty = false) (h : (s.size : Int) ≤ 30) (h0 : 0 < s.size) (hd : ((s[0]'h0).toNat : Int) < 48 ∨ 57 < ((s[0]'h0).toNat : Int)) (r : Bool) (hr : r = true ↔ ∀ i (h : i < s.size), LetP ((s[i]'h).toNat : Int)) :
    Calls Tryd.prog 45 #[.string s] w fun e w' => e = .returned (.bool r) ∧ w = w' := by
  have z0 : ¬ s.toList = [] := by simpa using z
  obtain ⟨c, hc⟩ : ∃ c : Int, ((s[0]'h0).toNat : Int) = c := ⟨_, rfl⟩
  rw [hc] at hd
  have HR := Lib.hid hr
  clear hr
  go_enter Tryd.func45, Tryd.ntmps45
  rcases hd with hd | hd
  all_goals
    go_upto_region 4 with fail
    clear hc
    go_loopw [3, 4] (fun ii s4 wr => ∃ j : Nat, j ≤ s.size ∧ ii = .int .i64 j ∧ w = wr ∧ Hid (∀ i (h : i < s.size), i < j → LetP ((s[i]'h).toNat : Int))) (fun ii s4 _ => s.size - (intOf ii).toNat)
    case atStart => exact ⟨0, Nat.zero_le _, rfl, rfl, Lib.hid (fun i _ h => absurd h (Nat.not_lt_zero _))⟩
    case round =>
      obtain ⟨j, hj, rfl, rfl, HL⟩ := hrel
      have i0 : (0 : Int) ≤ (j : Int) := by omega
      by_cases jlt : j < s.size
      · have i1 : (j : Int) < s.size := by omega
        obtain ⟨x, hx⟩ : ∃ x : Int, ((s[j]'jlt).toNat : Int) = x := ⟨_, rfl⟩
        have x0 : 0 ≤ x := by omega
        have x1 : x ≤ 255 := by have := (s[j]'jlt).toNat_lt; omega
        by_cases hl : LetP x
        · have HL2 : Hid (∀ i (h : i < s.size), i < j + 1 → LetP ((s[i]'h).toNat : Int)) := Lib.hid (fun i h q => by
            by_cases e : i = j
            · subst e; rw [hx]; exact hl
            · exact HL.out i h (by omega))
          rcases hl with rfl | ⟨a, b⟩ | ⟨a, b⟩ | ⟨a, b⟩
          all_goals
            go_wp2
            go_roundw
            case rel => exact ⟨j + 1, by omega, by go_num, by first | rfl | trivial, HL2⟩
            case measure => simp [intOf]; omega
        · have HN := Lib.hid hl
          have hq : x < 48 ∨ (57 < x ∧ x < 65) ∨ (90 < x ∧ x < 95) ∨ x = 96 ∨ 122 < x := by unfold LetP at hl; omega
          obtain rfl : r = false := by
            cases r
            · rfl
            · exact absurd (hx ▸ HR.out.1 rfl j jlt) hl
          have xn : (x != 95) = true := by simp; exact fun e => hl (.inl e)
          clear hl
          rcases hq with a | ⟨a, b⟩ | ⟨a, b⟩ | rfl | a
          all_goals
            go_wp2
            go_returns
            exact ⟨rfl, rfl⟩
      · have i1 : (s.size : Int) ≤ (j : Int) := by omega
        obtain rfl : r = true := HR.out.2 (fun i h => HL.out i h (by omega))
        go_wp2
        go_returns
        exact ⟨rfl, rfl⟩
theorem rnm_name (s : ByteArray) (w : World) (r : Bool) (hr : r = true ↔ RName s) :
    Calls Tryd.prog 45 #[.string s] w fun e w' => e = .returned (.bool r) ∧ w = w' := by
  by_cases z : s.size = 0
  · obtain rfl : s = ⟨#[]⟩ := by cases s with | mk d => simp [ByteArray.size] at z; simp [z]
    obtain rfl : r = false := by
      cases r
      · rfl
      · have := (hr.1 rfl).lo; exact absurd this (by decide)
    exact rnm_empty w
  · have z1 : 0 < s.size := by omega
    have z2 : s.toList.isEmpty = false := by
      rw [ByteArray.toList_eq]
      cases s with | mk d => cases d with | mk l => cases l with
        | nil => exact absurd rfl z
        | cons a b => rfl
    by_cases q : 30 < s.size
    · obtain rfl : r = false := by
        cases r
        · rfl
        · have := (hr.1 rfl).hi; omega
      exact rnm_long s w z2 (by omega)
    · by_cases d : 48 ≤ ((s[0]'z1).toNat : Int) ∧ ((s[0]'z1).toNat : Int) ≤ 57
      · obtain rfl : r = false := by
          cases r
          · rfl
          · exact absurd d (hr.1 rfl).first
        exact rnm_digit s w z2 (by omega) z1 d.1 d.2
      · exact rnm_loop s w z2 (by omega) z1 (by omega) r ⟨fun h => (hr.1 h).all, fun h => hr.2 ⟨z1, by omega, d, h⟩⟩
def AllFit (l : List (Pt × Int)) : Prop := ∀ p ∈ l.map (fun x => x.1), FitP p
theorem allfit_app (a b : List (Pt × Int)) : AllFit (a ++ b) ↔ AllFit a ∧ AllFit b := by
  unfold AllFit
  rw [List.map_append]
  constructor
  · intro h; exact ⟨fun p hp => h p (List.mem_append_left _ hp), fun p hp => h p (List.mem_append_right _ hp)⟩
  · rintro ⟨h1, h2⟩ p hp
    rcases List.mem_append.1 hp with h | h
    · exact h1 p h
    · exact h2 p h
theorem allfit_at {w : World} {n : Nat} {v : Value} {F : Tour} (h : ExAt w n v F) (d e : Int) : AllFit (F d) ↔ AllFit (F e) := by
  unfold AllFit; rw [ex_parts h d e]
set_option maxRecDepth 8000 in
set_option maxHeartbeats 4000000 in
theorem rparts_any : ∀ (n : Nat) (v : Value) (F : Tour) (w : World), ExAt w n v F → ∀ (r : Bool), (r = true ↔ AllFit (F 1)) → Calls Tryd.prog 42 #[v] w fun e w' => e = .returned (.bool r) ∧ Below w.heap.size w w'
  | 0, _, _, _, h, _, _ => h.elim
  | n + 1, v, F, w, h, r, hr0 => by
    have IH := Lib.hid (fun v F w h r hr => rparts_any n v F w h r hr)
    obtain ⟨p, an, nn, nc, aa, ac, Fs, rfl, hh, hk, rfl, hc⟩ := h
    unfold pv
    have HC := Lib.hid hc
    have HK := Lib.hid hk
    have HR : Hid (r = true ↔ FitP p ∧ AllFit (flat Fs (1 + 1))) := Lib.hid (hr0.trans (by
      constructor
      · intro h; exact ⟨h p (by simp), fun q hq => h q (List.mem_cons_of_mem _ hq)⟩
      · rintro ⟨h1, h2⟩ q hq
        rcases List.mem_cons.1 hq with e | h
        · rw [e]; exact h1
        · exact h2 q h))
    have k0 : (0 : Int) ≤ (p.k : Int) := by omega
    have k1 : (p.k : Int) ≤ 9223372036854775807 := by have := hh.le; have := hh.top; omega
    have hnl := hh.nums.len
    have n0 : (0 : Int) ≤ (nn : Int) := by omega
    have n1 : (nn : Int) ≤ 9223372036854775807 := by have := hh.nums.le; have := hh.nums.top; omega
    have HO := Lib.hid hh.o1
    have HNL := Lib.hid hnl
    obtain ⟨b, hb⟩ : ∃ z, w.heap.size = z := ⟨_, rfl⟩
    obtain ⟨w1, hw1⟩ : ∃ z, w.alloc (.cells #[.int .u8 p.op, .string p.nm, .slice an nn nc, .slice aa p.k ac] 31) = z := ⟨_, rfl⟩
    have HX : Hid (Bx1 w w1 b #[.int .u8 p.op, .string p.nm, .slice an nn nc, .slice aa p.k ac]) := Lib.hid ⟨by rw [← hw1]; exact (Below.refl _ w).alloc (Nat.le_refl _) _, by rw [← hw1, ← hb, al_new]⟩
    clear hc hk hr0 hh hnl
    have e0 := cell_blk HX.out.box 0
    have e1 := cell_blk HX.out.box 1
    have e2 := cell_blk HX.out.box 2
    have e3 := cell_blk HX.out.box 3
    by_cases o12 : 12 < p.op
    · have HKD := Lib.hid (kind_out p.op w1 o12)
      have t0 : ((-1 : Int) != (nn : Int)) = true := by first | (simp; done) | (simp; omega)
      go_enter Tryd.func42, Tryd.ntmps42
      go_wp2_with fail
      (with_reducible refine HKD.out.mono ?_)
      rintro e w2 ⟨rfl, rfl⟩
      obtain rfl : r = false := by
        cases r
        · rfl
        · exfalso
          have a := (HR.out.1 rfl).1
          have := a.op; omega
      go_wp2
      go_returns
      exact ⟨rfl, HX.out.bw⟩
    · obtain ⟨i, hi⟩ := Int.eq_ofNat_of_zero_le HO.out
      have i13 : i < 13 := by omega
      have i0 : (0 : Int) ≤ (i : Int) := by omega
      have i1 : (i : Int) ≤ 12 := by omega
      have HKD := Lib.hid (kind_in i w1 i13)
      have bn := nN_bd i i13
      have ba := aN_bd i i13
      have HFX : Hid (FitP p ↔ ((nn : Int) = nN i ∧ (p.k : Int) = aN i ∧ if i = 0 then RName p.nm else p.nm = ⟨#[]⟩)) := Lib.hid (by
        constructor
        · intro h
          refine ⟨?_, ?_, ?_⟩
          · have := h.nums; rw [hi, Int.toNat_natCast, HNL.out] at this; exact this
          · have := h.args; rw [hi, Int.toNat_natCast] at this; exact this
          · have := h.name; rw [hi] at this
            by_cases z : i = 0
            · rw [if_pos z]; rw [if_pos (by omega)] at this; exact this
            · rw [if_neg z]; rw [if_neg (by omega)] at this; exact this
        · intro h
          refine ⟨by omega, by rw [hi, Int.toNat_natCast, HNL.out]; exact h.1, by rw [hi, Int.toNat_natCast]; exact h.2.1, ?_⟩
          have := h.2.2
          rw [hi]
          by_cases z : i = 0
          · rw [if_pos z] at this; rw [if_pos (by omega)]; exact this
          · rw [if_neg z] at this; rw [if_neg (by omega)]; exact this)
      obtain ⟨x, hx⟩ : ∃ x, nN i = x := ⟨_, rfl⟩
      obtain ⟨y, hy⟩ : ∃ x, aN i = x := ⟨_, rfl⟩
      rw [hx, hy] at HKD HFX
      rw [hx] at bn
      rw [hy] at ba
      have bn0 := bn.1
      have bn1 := bn.2
      have ba0 := ba.1
      have ba1 := ba.2.1
      have hpo : p.op = (i : Int) := hi
      rw [hpo] at e0 HX hw1 ⊢
      clear bn ba hx hy hi o12
      go_enter Tryd.func42, Tryd.ntmps42
      go_wp2_with fail
      (with_reducible refine HKD.out.mono ?_)
      rintro e w2 ⟨rfl, rfl⟩
      clear HKD hw1 hb
      by_cases c1 : x = (nn : Int)
      · have t1 : (x != (nn : Int)) = false := by simp [c1]
        by_cases c2 : y = (p.k : Int)
        · have t2 : (y != (p.k : Int)) = false := by simp [c2]
          by_cases iz : i = 0
          · subst iz
            obtain ⟨rn, hrn⟩ : ∃ rn : Bool, rn = true ↔ RName p.nm := by classical exact ⟨decide _, decide_eq_true_iff⟩
            have HNM := Lib.hid (fun W => rnm_name p.nm W rn hrn)
            have HRN := Lib.hid hrn
            clear hrn
            go_wp2_with fail
            (with_reducible refine (HNM.out _).mono ?_)
            rintro e w2 ⟨rfl, rfl⟩
            cases rn
            · skip
              obtain rfl : r = false := by
                cases r
                · rfl
                · exfalso
                  have a := (HR.out.1 rfl).1
                  have := (HFX.out.1 a).2.2; rw [if_pos trivial] at this; have := HRN.out.2 this; cases this
              go_wp2
              go_returns
              exact ⟨rfl, HX.out.bw⟩
            · have HFP : Hid (FitP p) := Lib.hid (HFX.out.2 ⟨c1.symm, c2.symm, by rw [if_pos trivial]; exact HRN.out.1 rfl⟩)
              go_upto_region 5 with fail
              clear e0 e1 e2 e3
              go_loopw [5] (fun ii wr => ∃ (j : Nat), j ≤ p.k ∧ ii = .int .i64 j ∧ Hid (AllFit (flat (Fs.take j) (1 + 1))) ∧ Hid (Bx1 w wr b #[.int .u8 ((0 : Nat) : Int), .string p.nm, .slice an nn nc, .slice aa p.k ac])) (fun ii _ => p.k - (intOf ii).toNat)
              case atStart => exact ⟨0, Nat.zero_le _, rfl, Lib.hid (fun p hp => by simp [flat] at hp), HX⟩
              case round =>
                clear HX
                obtain ⟨j, hj, rfl, HCC, HX⟩ := hrel
                have j0 : (0 : Int) ≤ (j : Int) := by omega
                have e3 := cell_blk HX.out.box 3
                by_cases jlt : j < p.k
                · have j1 : (j : Int) < p.k := by omega
                  obtain ⟨q0, q, rfl, hx⟩ := HC.out (by omega)
                  obtain ⟨x0, x1, x2, x3, g0, g1, g2, g3, hr⟩ := hx j (by rw [HK.out]; exact jlt)
                  obtain ⟨p2, an2, nn2, nc2, aa2, ac2, ex, hh2⟩ := hr.head
                  cases ex
                  obtain ⟨G, hG⟩ : ∃ G : Tour, Fs[j]'(by rw [HK.out]; exact jlt) = G := ⟨_, rfl⟩
                  rw [hG] at hr
                  have g0 := cell_keep g0 HX.out.bw
                  have g1 := cell_keep g1 HX.out.bw
                  have g2 := cell_keep g2 HX.out.bw
                  have g3 := cell_keep g3 HX.out.bw
                  have HTK : Hid (flat (Fs.take (j + 1)) (1 + 1) = flat (Fs.take j) (1 + 1) ++ G (1 + 1)) := Lib.hid (by rw [flat_take Fs (1 + 1) (by rw [HK.out]; exact jlt), hG])
                  obtain ⟨r2, hr2⟩ : ∃ r2 : Bool, r2 = true ↔ AllFit (G 1) := by classical exact ⟨decide _, decide_eq_true_iff⟩
                  have HIH := Lib.hid (IH.out _ G wr (hr.keep HX.out.bw) r2 hr2)
                  have HR2 := Lib.hid (hr2.trans (allfit_at hr 1 (1 + 1)))
                  have HSP : Hid (∃ Z, flat Fs (1 + 1) = flat (Fs.take (j + 1)) (1 + 1) ++ Z) := Lib.hid ⟨_, by rw [← flat_app, List.take_append_drop]⟩
                  clear hr hx hh2 hG hr2
                  go_wp2_with fail
                  (with_reducible refine HIH.out.mono ?_)
                  rintro e w5 ⟨rfl, q⟩
                  have HX := Lib.hid (HX.out.keep q)
                  clear q HIH g0 g1 g2 g3 e3
                  cases r2
                  · obtain rfl : r = false := by
                      cases r
                      · rfl
                      · exfalso
                        have a := (HR.out.1 rfl).2
                        obtain ⟨Z, hZ⟩ := HSP.out
                        rw [hZ, allfit_app, HTK.out, allfit_app] at a
                        have := HR2.out.2 a.1.2
                        cases this
                    go_wp2
                    go_returns
                    exact ⟨rfl, HX.out.bw⟩
                  · have HC2 : Hid (AllFit (flat (Fs.take (j + 1)) (1 + 1))) := Lib.hid (by rw [HTK.out, allfit_app]; exact ⟨HCC.out, HR2.out.1 rfl⟩)
                    go_wp2
                    go_roundw
                    case rel => exact ⟨j + 1, by omega, by go_num, HC2, HX⟩
                    case measure => simp [intOf]; omega
                · have j1 : (p.k : Int) ≤ (j : Int) := by omega
                  obtain rfl : r = true := HR.out.2 ⟨HFP.out, by
                    have a := HCC.out
                    rwa [List.take_of_length_le (by rw [HK.out]; omega)] at a⟩
                  go_wp2
                  go_returns
                  exact ⟨rfl, HX.out.bw⟩
          · have t3 : ((i : Int) == 0) = false := by simp; exact iz
            have t4 : ((i : Int) != 0) = true := by simp; exact iz
            by_cases ne : p.nm = ⟨#[]⟩
            · have t5 : p.nm.toList = [] := by rw [ne]; kernel_rfl
              have HFP : Hid (FitP p) := Lib.hid (HFX.out.2 ⟨c1.symm, c2.symm, by rw [if_neg iz]; exact ne⟩)
              go_upto_region 5 with fail
              clear e0 e1 e2 e3
              go_loopw [5] (fun ii wr => ∃ (j : Nat), j ≤ p.k ∧ ii = .int .i64 j ∧ Hid (AllFit (flat (Fs.take j) (1 + 1))) ∧ Hid (Bx1 w wr b #[.int .u8 (i : Int), .string p.nm, .slice an nn nc, .slice aa p.k ac])) (fun ii _ => p.k - (intOf ii).toNat)
              case atStart => exact ⟨0, Nat.zero_le _, rfl, Lib.hid (fun p hp => by simp [flat] at hp), HX⟩
              case round =>
                clear HX
                obtain ⟨j, hj, rfl, HCC, HX⟩ := hrel
                have j0 : (0 : Int) ≤ (j : Int) := by omega
                have e3 := cell_blk HX.out.box 3
                by_cases jlt : j < p.k
                · have j1 : (j : Int) < p.k := by omega
                  obtain ⟨q0, q, rfl, hx⟩ := HC.out (by omega)
                  obtain ⟨x0, x1, x2, x3, g0, g1, g2, g3, hr⟩ := hx j (by rw [HK.out]; exact jlt)
                  obtain ⟨p2, an2, nn2, nc2, aa2, ac2, ex, hh2⟩ := hr.head
                  cases ex
                  obtain ⟨G, hG⟩ : ∃ G : Tour, Fs[j]'(by rw [HK.out]; exact jlt) = G := ⟨_, rfl⟩
                  rw [hG] at hr
                  have g0 := cell_keep g0 HX.out.bw
                  have g1 := cell_keep g1 HX.out.bw
                  have g2 := cell_keep g2 HX.out.bw
                  have g3 := cell_keep g3 HX.out.bw
                  have HTK : Hid (flat (Fs.take (j + 1)) (1 + 1) = flat (Fs.take j) (1 + 1) ++ G (1 + 1)) := Lib.hid (by rw [flat_take Fs (1 + 1) (by rw [HK.out]; exact jlt), hG])
                  obtain ⟨r2, hr2⟩ : ∃ r2 : Bool, r2 = true ↔ AllFit (G 1) := by classical exact ⟨decide _, decide_eq_true_iff⟩
                  have HIH := Lib.hid (IH.out _ G wr (hr.keep HX.out.bw) r2 hr2)
                  have HR2 := Lib.hid (hr2.trans (allfit_at hr 1 (1 + 1)))
                  have HSP : Hid (∃ Z, flat Fs (1 + 1) = flat (Fs.take (j + 1)) (1 + 1) ++ Z) := Lib.hid ⟨_, by rw [← flat_app, List.take_append_drop]⟩
                  clear hr hx hh2 hG hr2
                  go_wp2_with fail
                  (with_reducible refine HIH.out.mono ?_)
                  rintro e w5 ⟨rfl, q⟩
                  have HX := Lib.hid (HX.out.keep q)
                  clear q HIH g0 g1 g2 g3 e3
                  cases r2
                  · obtain rfl : r = false := by
                      cases r
                      · rfl
                      · exfalso
                        have a := (HR.out.1 rfl).2
                        obtain ⟨Z, hZ⟩ := HSP.out
                        rw [hZ, allfit_app, HTK.out, allfit_app] at a
                        have := HR2.out.2 a.1.2
                        cases this
                    go_wp2
                    go_returns
                    exact ⟨rfl, HX.out.bw⟩
                  · have HC2 : Hid (AllFit (flat (Fs.take (j + 1)) (1 + 1))) := Lib.hid (by rw [HTK.out, allfit_app]; exact ⟨HCC.out, HR2.out.1 rfl⟩)
                    go_wp2
                    go_roundw
                    case rel => exact ⟨j + 1, by omega, by go_num, HC2, HX⟩
                    case measure => simp [intOf]; omega
                · have j1 : (p.k : Int) ≤ (j : Int) := by omega
                  obtain rfl : r = true := HR.out.2 ⟨HFP.out, by
                    have a := HCC.out
                    rwa [List.take_of_length_le (by rw [HK.out]; omega)] at a⟩
                  go_wp2
                  go_returns
                  exact ⟨rfl, HX.out.bw⟩
            · have t5 : p.nm.toList.isEmpty = false := by
                cases y : p.nm.toList.isEmpty
                · rfl
                · exact absurd ((nm_empty _).1 y) ne
              have t6 : ¬ p.nm.toList = [] := by intro e; rw [e] at t5; cases t5
              obtain rfl : r = false := by
                cases r
                · rfl
                · exfalso
                  have a := (HR.out.1 rfl).1
                  have := (HFX.out.1 a).2.2; rw [if_neg iz] at this; exact ne this
              go_wp2
              go_returns
              exact ⟨rfl, HX.out.bw⟩
        · have t2 : (y != (p.k : Int)) = true := by simp [c2]
          obtain rfl : r = false := by
            cases r
            · rfl
            · exfalso
              have a := (HR.out.1 rfl).1
              exact c2 (HFX.out.1 a).2.1.symm
          go_wp2
          go_returns
          exact ⟨rfl, HX.out.bw⟩
      · have t1 : (x != (nn : Int)) = true := by simp [c1]
        obtain rfl : r = false := by
          cases r
          · rfl
          · exfalso
            have a := (HR.out.1 rfl).1
            exact c1 (HFX.out.1 a).1.symm
        go_wp2
        go_returns
        exact ⟨rfl, HX.out.bw⟩
theorem nm_inj (a b : ByteArray) : a.toList = b.toList ↔ a = b := by
  rw [ByteArray.toList_eq, ByteArray.toList_eq]
  constructor
  · intro h
    cases a; cases b
    simp only at h
    rw [Array.toList_inj] at h
    rw [h]
  · rintro rfl; rfl
theorem flats_pref {P Q : Tour → Prop} (ih : ∀ F G, P F → Q G → ∀ d A B, F d ++ A = G d ++ B → F = G ∧ A = B) : ∀ (Fs Gs : List Tour), Fs.length = Gs.length → (∀ F ∈ Fs, P F) → (∀ G ∈ Gs, Q G) → ∀ d A B, flat Fs d ++ A = flat Gs d ++ B → Fs = Gs ∧ A = B
  | [], [], _, _, _, d, A, B, h => ⟨rfl, by simpa [flat] using h⟩
  | [], _ :: _, h, _, _, _, _, _, _ => by cases h
  | _ :: _, [], h, _, _, _, _, _, _ => by cases h
  | F :: Fs, G :: Gs, hl, hp, hq, d, A, B, h => by
    have e1 : flat (F :: Fs) d = F d ++ flat Fs d := by simp [flat]
    have e2 : flat (G :: Gs) d = G d ++ flat Gs d := by simp [flat]
    rw [e1, e2, List.append_assoc, List.append_assoc] at h
    obtain ⟨rfl, h1⟩ := ih F G (hp F (List.mem_cons_self ..)) (hq G (List.mem_cons_self ..)) d _ _ h
    obtain ⟨rfl, h2⟩ := flats_pref ih Fs Gs (by simpa using hl) (fun F h => hp F (List.mem_cons_of_mem _ h)) (fun F h => hq F (List.mem_cons_of_mem _ h)) d A B h1
    exact ⟨rfl, h2⟩
theorem exs_of {w : World} {n : Nat} {k : Nat} {aa : Option Addr} {Fs : List Tour} (hk : Fs.length = k) (hc : 0 < k → ∃ b q, aa = some (⟨b, q, none⟩ : Addr) ∧ ∀ i (h : i < Fs.length), ∃ x0 x1 x2 x3, w.cell? ⟨b, q + i * 4, none⟩ = some x0 ∧ w.cell? ⟨b, q + i * 4 + 1, none⟩ = some x1 ∧ w.cell? ⟨b, q + i * 4 + 2, none⟩ = some x2 ∧ w.cell? ⟨b, q + i * 4 + 3, none⟩ = some x3 ∧ ExAt w n (.agg #[x0, x1, x2, x3]) Fs[i]) : ∀ F ∈ Fs, ∃ v, ExAt w n v F := by
  intro F hF
  obtain ⟨i, hi, rfl⟩ := List.getElem_of_mem hF
  obtain ⟨b, q, _, h⟩ := hc (by omega)
  obtain ⟨x0, x1, x2, x3, _, _, _, _, h⟩ := h i hi
  exact ⟨_, h⟩
theorem tour_pref {w w' : World} : ∀ (n m : Nat) (F G : Tour), (∃ v, ExAt w n v F) → (∃ v, ExAt w' m v G) → ∀ d A B, F d ++ A = G d ++ B → F = G ∧ A = B
  | 0, _, _, _, ⟨_, h⟩, _, _, _, _, _ => h.elim
  | _ + 1, 0, _, _, _, ⟨_, h⟩, _, _, _, _ => h.elim
  | n + 1, m + 1, F, G, ⟨v, h⟩, ⟨v', h'⟩, d, A, B, e => by
    obtain ⟨p, an, nn, nc, aa, ac, Fs, rfl, hh, hk, rfl, hc⟩ := h
    obtain ⟨q, am, mm, mc, ab, ad, Gs, rfl, hg, hj, rfl, hd⟩ := h'
    have e' : (p, d) :: (flat Fs (d + 1) ++ A) = (q, d) :: (flat Gs (d + 1) ++ B) := e
    injection e' with e1 e2
    injection e1 with e1 _
    subst e1
    obtain ⟨rfl, e3⟩ := flats_pref (fun F G hF hG => tour_pref n m F G hF hG) Fs Gs (hk.trans hj.symm) (exs_of hk hc) (exs_of hj hd) (d + 1) A B e2
    exact ⟨rfl, e3⟩
theorem tours_eq {w w' : World} {n m : Nat} {p q : Pt} {Fs Gs : List Tour} (hk : Fs.length = p.k) (hj : Gs.length = q.k) (hF : ∀ F ∈ Fs, ∃ v, ExAt w n v F) (hG : ∀ F ∈ Gs, ∃ v, ExAt w' m v F) : ((fun d => (p, d) :: flat Fs (d + 1)) : Tour) = (fun d => (q, d) :: flat Gs (d + 1)) ↔ p = q ∧ Fs = Gs := by
  constructor
  · intro h
    have e := congrFun h 0
    injection e with e1 e2
    injection e1 with e1 _
    refine ⟨e1, ?_⟩
    subst e1
    exact (flats_pref (fun F G hF hG => tour_pref n m F G hF hG) Fs Gs (hk.trans hj.symm) hF hG (0 + 1) [] [] (by simpa using e2)).1
  · rintro ⟨rfl, rfl⟩; rfl
theorem pt_eq (p q : Pt) : p = q ↔ p.op = q.op ∧ p.nm = q.nm ∧ p.nums = q.nums ∧ p.k = q.k := by
  constructor
  · rintro rfl; exact ⟨rfl, rfl, rfl, rfl⟩
  · intro h
    cases p; cases q
    obtain ⟨h1, h2, h3, h4⟩ := h
    simp only at h1 h2 h3 h4
    subst h1 h2 h3 h4
    rfl
/-- What makes two expressions the same. -/
def SameP (p q : Pt) (Fs Gs : List Tour) : Prop := p.op = q.op ∧ p.nm = q.nm ∧ p.nums = q.nums ∧ p.k = q.k ∧ Fs = Gs
theorem same_iff {w w' : World} {n m : Nat} {p q : Pt} {Fs Gs : List Tour} (hk : Fs.length = p.k) (hj : Gs.length = q.k) (hF : ∀ F ∈ Fs, ∃ v, ExAt w n v F) (hG : ∀ F ∈ Gs, ∃ v, ExAt w' m v F) : ((fun d => (p, d) :: flat Fs (d + 1)) : Tour) = (fun d => (q, d) :: flat Gs (d + 1)) ↔ SameP p q Fs Gs := by
  rw [tours_eq hk hj hF hG, pt_eq]; unfold SameP
  exact ⟨fun h => ⟨h.1.1, h.1.2.1, h.1.2.2.1, h.1.2.2.2, h.2⟩, fun h => ⟨⟨h.1, h.2.1, h.2.2.1, h.2.2.2.1⟩, h.2.2.2.2⟩⟩
/-- Two boxes. -/
structure Bx2 (w0 w : World) (b : Nat) (cs ds : Array Value) : Prop where
  bw : Below w0.heap.size w0 w
  b1 : w.heap[b]? = some (.cells cs 31 (0, 0))
  b2 : w.heap[b + 1]? = some (.cells ds 31 (0, 0))
theorem Bx2.keep {w0 w w' : World} {b : Nat} {cs ds : Array Value} (h : Bx2 w0 w b cs ds) (q : Below w.heap.size w w') : Bx2 w0 w' b cs ds := ⟨h.bw.trans (q.mono h.bw.size), (q.block b (Array.getElem?_eq_some_iff.1 h.b1).1).trans h.b1, (q.block (b + 1) (Array.getElem?_eq_some_iff.1 h.b2).1).trans h.b2⟩
set_option maxRecDepth 8000 in
set_option maxHeartbeats 4000000 in
theorem rsame_any : ∀ (n : Nat) (v : Value) (F : Tour) (m : Nat) (v' : Value) (G : Tour) (w : World), ExAt w n v F → ExAt w m v' G → ∀ (r : Bool), (r = true ↔ F = G) → Calls Tryd.prog 17 #[v, v'] w fun e w' => e = .returned (.bool r) ∧ Below w.heap.size w w'
  | 0, _, _, _, _, _, _, h, _, _, _ => h.elim
  | _ + 1, _, _, 0, _, _, _, _, h, _, _ => h.elim
  | n + 1, v, F, m + 1, v', G, w, h, h', r, hr0 => by
    have IH := Lib.hid (fun v F v' G w h h' r hr => rsame_any n v F m v' G w h h' r hr)
    obtain ⟨p, an, nn, nc, aa, ac, Fs, rfl, hh, hk, rfl, hc⟩ := h
    obtain ⟨q, am, mm, mc, ab, ad, Gs, rfl, hg, hj, rfl, hd⟩ := h'
    unfold pv
    have HR := Lib.hid (hr0.trans (same_iff hk hj (exs_of hk hc) (exs_of hj hd)))
    have HC := Lib.hid hc
    have HK := Lib.hid hk
    have HD := Lib.hid hd
    have HJ := Lib.hid hj
    have k0 : (0 : Int) ≤ (p.k : Int) := by omega
    have k1 : (p.k : Int) ≤ 9223372036854775807 := by have := hh.le; have := hh.top; omega
    have l0 : (0 : Int) ≤ (q.k : Int) := by omega
    have l1 : (q.k : Int) ≤ 9223372036854775807 := by have := hg.le; have := hg.top; omega
    have n0 : (0 : Int) ≤ (nn : Int) := by omega
    have n1 : (nn : Int) ≤ 9223372036854775807 := by have := hh.nums.le; have := hh.nums.top; omega
    have m0 : (0 : Int) ≤ (mm : Int) := by omega
    have m1 : (mm : Int) ≤ 9223372036854775807 := by have := hg.nums.le; have := hg.nums.top; omega
    have HN1 := Lib.hid hh.nums
    have HN2 := Lib.hid hg.nums
    obtain ⟨b, hb⟩ : ∃ z, w.heap.size = z := ⟨_, rfl⟩
    obtain ⟨w1, hw1⟩ : ∃ z, (w.alloc (.cells #[.int .u8 p.op, .string p.nm, .slice an nn nc, .slice aa p.k ac] 31)).alloc (.cells #[.int .u8 q.op, .string q.nm, .slice am mm mc, .slice ab q.k ad] 31) = z := ⟨_, rfl⟩
    have HX : Hid (Bx2 w w1 b #[.int .u8 p.op, .string p.nm, .slice an nn nc, .slice aa p.k ac] #[.int .u8 q.op, .string q.nm, .slice am mm mc, .slice ab q.k ad]) := Lib.hid ⟨by rw [← hw1]; exact ((Below.refl _ w).alloc (Nat.le_refl _) _).alloc (by simp) _, by rw [← hw1, al_old _ _ (by simp; omega), ← hb, al_new], by rw [← hw1, show b + 1 = (w.alloc (.cells #[.int .u8 p.op, .string p.nm, .slice an nn nc, .slice aa p.k ac] 31)).heap.size by simp; omega, al_new]⟩
    have hb1 : (w.alloc (.cells #[.int .u8 p.op, .string p.nm, .slice an nn nc, .slice aa p.k ac] 31)).heap.size = b + 1 := by simp; omega
    clear hc hk hd hj hr0 hh hg
    have e0 := cell_blk HX.out.b1 0
    have e1 := cell_blk HX.out.b1 1
    have e2 := cell_blk HX.out.b1 2
    have e3 := cell_blk HX.out.b1 3
    have f0 := cell_blk HX.out.b2 0
    have f1 := cell_blk HX.out.b2 1
    have f2 := cell_blk HX.out.b2 2
    have f3 := cell_blk HX.out.b2 3
    go_enter Tryd.func17, Tryd.ntmps17
    go_upto_region 1 with fail
    clear hw1 hb hb1
    by_cases o1 : p.op = q.op
    · have t1 : (p.op != q.op) = false := by simp [o1]
      by_cases n1e : p.nm = q.nm
      · have t2 : p.nm.toList = q.nm.toList := (nm_inj _ _).2 n1e
        by_cases c1 : nn = mm
        · have t3 : ((nn : Int) != (mm : Int)) = false := by simp; omega
          by_cases c2 : p.k = q.k
          · have t4 : ((p.k : Int) != (q.k : Int)) = false := by simp; omega
            go_upto_region 4 with fail
            clear e0 e1 e2 e3 f0 f1 f2 f3
            go_loopw [5] (fun ii wr => ∃ (j : Nat), j ≤ nn ∧ ii = .int .i64 j ∧ Hid (∀ i, i < j → p.nums[i]? = q.nums[i]?) ∧ Hid (Bx2 w wr b #[.int .u8 p.op, .string p.nm, .slice an nn nc, .slice aa p.k ac] #[.int .u8 q.op, .string q.nm, .slice am mm mc, .slice ab q.k ad])) (fun ii _ => nn - (intOf ii).toNat)
            case atStart => exact ⟨0, Nat.zero_le _, rfl, Lib.hid (fun i hi => absurd hi (Nat.not_lt_zero _)), HX⟩
            case round =>
              clear HX
              obtain ⟨j, hj, rfl, HA, HX⟩ := hrel
              have j0 : (0 : Int) ≤ (j : Int) := by omega
              have e2 := cell_blk HX.out.b1 2
              have f2 := cell_blk HX.out.b2 2
              by_cases jlt : j < nn
              · have j1 : (j : Int) < nn := by omega
                have j2 : (j : Int) < mm := by omega
                obtain ⟨q0, o, rfl, hx⟩ := HN1.out.here (by omega)
                have hx := hx j (by rw [HN1.out.len]; exact jlt)
                obtain ⟨q1, o9, rfl, hy⟩ := HN2.out.here (by omega)
                have hy := hy j (by rw [HN2.out.len]; omega)
                obtain ⟨x, hex⟩ : ∃ x, p.nums[j]'(by rw [HN1.out.len]; exact jlt) = x := ⟨_, rfl⟩
                obtain ⟨y, hey⟩ : ∃ x, q.nums[j]'(by rw [HN2.out.len]; omega) = x := ⟨_, rfl⟩
                rw [hex] at hx
                rw [hey] at hy
                have HG1 : Hid (p.nums[j]? = some x) := Lib.hid (by rw [List.getElem?_eq_getElem (by rw [HN1.out.len]; exact jlt), hex])
                have HG2 : Hid (q.nums[j]? = some y) := Lib.hid (by rw [List.getElem?_eq_getElem (by rw [HN2.out.len]; omega), hey])
                have g0 := cell_keep hx.1 HX.out.bw
                have g1 := cell_keep hy.1 HX.out.bw
                clear hx hy hex hey
                have HX2 : Hid (Bx2 w (wr.drew) b _ _) := Lib.hid (HX.out.keep (Below.refl _ wr).drew)
                by_cases xy : x = y
                · have xt : (x != y) = false := by simp [xy]
                  go_upto_region 6 with fail
                  go_region
                  clear g0 g1 e2 f2
                  go_wp2
                  go_roundw
                  case rel => exact ⟨j + 1, by omega, by go_num, Lib.hid (fun i hi => by
                    by_cases e : i < j
                    · exact HA.out i e
                    · obtain rfl : i = j := by omega
                      rw [HG1.out, HG2.out, xy]), HX2⟩
                  case measure => simp [intOf]; omega
                · have xt : (x != y) = true := by simp [xy]
                  obtain rfl : r = false := by
                    cases r
                    · rfl
                    · exfalso
                      have a := (HR.out.1 rfl).2.2.1
                      have b1 := HG1.out
                      rw [a, HG2.out] at b1
                      injection b1 with b1
                      exact xy b1.symm
                  go_upto_region 6 with fail
                  go_region
                  clear g0 g1 e2 f2
                  go_wp2
                  go_returns
                  exact ⟨rfl, HX2.out.bw⟩
              · have j1 : (nn : Int) ≤ (j : Int) := by omega
                have HNE : Hid (p.nums = q.nums) := Lib.hid (by
                  apply List.ext_getElem?
                  intro i
                  by_cases hi : i < nn
                  · exact HA.out i (by omega)
                  · rw [List.getElem?_eq_none (by rw [HN1.out.len]; omega), List.getElem?_eq_none (by rw [HN2.out.len]; omega)])
                go_upto_region 9 with fail
                clear HA e2 f2 j0 hj jlt j1
                obtain ⟨wo, rfl⟩ : ∃ wo : World, wo = wr := ⟨_, rfl⟩
                have HX2 := HX
                clear HX
                go_loopw [6] (fun ii wr => ∃ (j : Nat), j ≤ p.k ∧ ii = .int .i64 j ∧ Hid (∀ i, i < j → Fs[i]? = Gs[i]?) ∧ Hid (Bx2 w wr b #[.int .u8 p.op, .string p.nm, .slice an nn nc, .slice aa p.k ac] #[.int .u8 q.op, .string q.nm, .slice am mm mc, .slice ab q.k ad])) (fun ii _ => p.k - (intOf ii).toNat)
                case atStart => exact ⟨0, Nat.zero_le _, rfl, Lib.hid (fun i hi => absurd hi (Nat.not_lt_zero _)), HX2⟩
                case round =>
                  clear HX2
                  obtain ⟨j, hj, rfl, HA, HX⟩ := hrel
                  have j0 : (0 : Int) ≤ (j : Int) := by omega
                  have e3 := cell_blk HX.out.b1 3
                  have f3 := cell_blk HX.out.b2 3
                  by_cases jlt : j < p.k
                  · have j1 : (j : Int) < p.k := by omega
                    obtain ⟨q0, o, rfl, hx⟩ := HC.out (by omega)
                    obtain ⟨x0, x1, x2, x3, g0, g1, g2, g3, hr⟩ := hx j (by rw [HK.out]; exact jlt)
                    obtain ⟨q1, o9, rfl, hy⟩ := HD.out (by omega)
                    obtain ⟨y0, y1, y2, y3, h0, h1, h2, h3, hs⟩ := hy j (by rw [HJ.out]; omega)
                    obtain ⟨p2, an2, nn2, nc2, aa2, ac2, ex, hh2⟩ := hr.head
                    cases ex
                    obtain ⟨p3, an3, nn3, nc3, aa3, ac3, ex, hh3⟩ := hs.head
                    cases ex
                    obtain ⟨G, hG⟩ : ∃ G : Tour, Fs[j]'(by rw [HK.out]; exact jlt) = G := ⟨_, rfl⟩
                    obtain ⟨G', hG'⟩ : ∃ G : Tour, Gs[j]'(by rw [HJ.out]; omega) = G := ⟨_, rfl⟩
                    rw [hG] at hr
                    rw [hG'] at hs
                    have HG1 : Hid (Fs[j]? = some G) := Lib.hid (by rw [List.getElem?_eq_getElem (by rw [HK.out]; exact jlt), hG])
                    have HG2 : Hid (Gs[j]? = some G') := Lib.hid (by rw [List.getElem?_eq_getElem (by rw [HJ.out]; omega), hG'])
                    have g0 := cell_keep g0 HX.out.bw
                    have g1 := cell_keep g1 HX.out.bw
                    have g2 := cell_keep g2 HX.out.bw
                    have g3 := cell_keep g3 HX.out.bw
                    have h0 := cell_keep h0 HX.out.bw
                    have h1 := cell_keep h1 HX.out.bw
                    have h2 := cell_keep h2 HX.out.bw
                    have h3 := cell_keep h3 HX.out.bw
                    obtain ⟨r2, hr2⟩ : ∃ r2 : Bool, r2 = true ↔ G = G' := by classical exact ⟨decide _, decide_eq_true_iff⟩
                    have HIH := Lib.hid (fun W (hW : Below w.heap.size w W) => IH.out _ G _ G' W (hr.keep hW) (hs.keep hW) r2 hr2)
                    have HD1 : Hid (Bx2 w wr.drew b _ _) := Lib.hid (HX.out.keep (Below.refl _ wr).drew)
                    have HR2 := Lib.hid hr2
                    clear hr hs hx hy hh2 hh3 hG hG' hr2
                    go_upto_region 11 with fail
                    go_region_with (go_at_call 17; (with_reducible refine (HIH.out _ HD1.out.bw).mono ?_); rintro e w5 ⟨rfl, q⟩; have HX2 := Lib.hid (HD1.out.keep q); clear q HX HD1 HIH g0 g1 g2 g3 h0 h1 h2 h3 e3 f3)
                    all_goals
                      cases r2
                      · obtain rfl : r = false := by
                          cases r
                          · rfl
                          · exfalso
                            have a := (HR.out.1 rfl).2.2.2.2
                            have b1 := HG1.out
                            rw [a, HG2.out] at b1
                            injection b1 with b1
                            have a := HR2.out
                            simp [b1] at a
                        go_wp2
                        go_returns
                        exact ⟨rfl, HX2.out.bw⟩
                      · have HGG : Hid (G = G') := Lib.hid (by have a := HR2.out; simpa using a)
                        go_wp2
                        go_roundw
                        case rel => exact ⟨j + 1, by omega, by go_num, Lib.hid (fun i hi => by
                          by_cases e : i < j
                          · exact HA.out i e
                          · obtain rfl : i = j := by omega
                            rw [HG1.out, HG2.out, HGG.out]), Lib.hid (by have a := HX2.out; rw [o1, n1e, c1, c2] at a; exact a)⟩
                        case measure => simp [intOf]; omega
                  · have j1 : (p.k : Int) ≤ (j : Int) := by omega
                    obtain rfl : r = true := HR.out.2 ⟨o1, n1e, HNE.out, c2, by
                      apply List.ext_getElem?
                      intro i
                      by_cases hi : i < p.k
                      · exact HA.out i (by omega)
                      · rw [List.getElem?_eq_none (by rw [HK.out]; omega), List.getElem?_eq_none (by rw [HJ.out]; omega)]⟩
                    go_wp2
                    go_returns
                    exact ⟨rfl, HX.out.bw⟩
          · have t4 : ((p.k : Int) != (q.k : Int)) = true := by simp; omega
            obtain rfl : r = false := by
              cases r
              · rfl
              · exact absurd (HR.out.1 rfl).2.2.2.1 (by exact c2)
            go_wp2
            go_returns
            exact ⟨rfl, HX.out.bw⟩
        · have t3 : ((nn : Int) != (mm : Int)) = true := by simp; omega
          obtain rfl : r = false := by
            cases r
            · rfl
            · exact absurd (HR.out.1 rfl).2.2.1 (by intro e; have a := HN1.out.len; have b := HN2.out.len; rw [e] at a; omega)
          go_wp2
          go_returns
          exact ⟨rfl, HX.out.bw⟩
      · have t2 : ¬ p.nm.toList = q.nm.toList := fun e => n1e ((nm_inj _ _).1 e)
        have t2b : (p.nm.toList == q.nm.toList) = false := by simpa using t2
        obtain rfl : r = false := by
          cases r
          · rfl
          · exact absurd (HR.out.1 rfl).2.1 (by exact n1e)
        go_wp2
        go_returns
        exact ⟨rfl, HX.out.bw⟩
    · have t1 : (p.op != q.op) = true := by simp [o1]
      obtain rfl : r = false := by
        cases r
        · rfl
        · exact absurd (HR.out.1 rfl).1 (by exact o1)
      go_wp2
      go_returns
      exact ⟨rfl, HX.out.bw⟩
end Go.Proofs.YtllhcpkpbipjlaaDoor
