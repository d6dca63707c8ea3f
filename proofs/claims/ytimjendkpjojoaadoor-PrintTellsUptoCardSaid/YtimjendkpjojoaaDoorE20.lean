/- The document's own answer for layer 9: Count, Depth. -/
import Derived.Test.YtimjendkpjojoaaDoorE11
namespace Go.Proofs.YtimjendkpjojoaaDoor
set_option linter.unusedVariables false
set_option linter.unusedSimpArgs false
open Go.ChangeShapes Go.WideShapes Go.ChangeAt Go.RowKit
theorem flat_take (Fs : List Tour) (d : Int) {j : Nat} (h : j < Fs.length) : flat (Fs.take (j + 1)) d = flat (Fs.take j) d ++ Fs[j] d := by
  rw [List.take_succ_eq_append_getElem h, flat_snoc]
theorem flat_len_take (Fs : List Tour) (d : Int) (j : Nat) : (flat (Fs.take j) d).length ≤ (flat Fs d).length := by
  have : (flat Fs d).length = (flat (Fs.take j) d).length + (flat (Fs.drop j) d).length := by rw [← List.length_append, ← flat_app, List.take_append_drop]
  omega
/-- A part in its box. -/
structure Bx1 (w0 w : World) (b : Nat) (cs : Array Value) : Prop where
  bw : Below w0.heap.size w0 w
  box : w.heap[b]? = some (.cells cs 25 (0, 0))
theorem Bx1.keep {w0 w w' : World} {b : Nat} {cs : Array Value} (h : Bx1 w0 w b cs) (q : Below w.heap.size w w') : Bx1 w0 w' b cs := ⟨h.bw.trans (q.mono h.bw.size), (q.block b (Array.getElem?_eq_some_iff.1 h.box).1).trans h.box⟩
set_option maxRecDepth 8000 in
set_option maxHeartbeats 2000000 in
theorem rcount_any : ∀ (n : Nat) (v : Value) (F : Tour) (w : World), ExAt w n v F → (F 1).length ≤ 1048576 → Calls Tryd.prog 5 #[v] w fun e w' => e = .returned (.int .i64 ((F 1).length : Int)) ∧ Below w.heap.size w w'
  | 0, _, _, _, h, _ => h.elim
  | n + 1, v, F, w, h, hl => by
    have IH := Lib.hid (fun v F w h hl => rcount_any n v F w h hl)
    obtain ⟨p, an, nn, nc, aa, ac, Fs, rfl, hh, hk, rfl, hc⟩ := h
    unfold pv
    have HC := Lib.hid hc
    have HK := Lib.hid hk
    have hl2 : (flat Fs (1 + 1)).length + 1 ≤ 1048576 := by simpa using hl
    have HLL := Lib.hid hl2
    obtain ⟨R, hR⟩ : ∃ R, (((fun d => (p, d) :: flat Fs (d + 1)) 1 : List (Pt × Int))).length = R := ⟨_, rfl⟩
    rw [hR]
    have HR : Hid ((R : Nat) = (flat Fs (1 + 1)).length + 1) := Lib.hid (by rw [← hR]; simp)
    have k0 : (0 : Int) ≤ (p.k : Int) := by omega
    have k1 : (p.k : Int) ≤ 9223372036854775807 := by have := hh.le; have := hh.top; omega
    obtain ⟨b, hb⟩ : ∃ z, w.heap.size = z := ⟨_, rfl⟩
    obtain ⟨w1, hw1⟩ : ∃ z, w.alloc (.cells #[.int .u8 p.op, .string p.nm, .slice an nn nc, .slice aa p.k ac] 25) = z := ⟨_, rfl⟩
    have HX : Hid (Bx1 w w1 b #[.int .u8 p.op, .string p.nm, .slice an nn nc, .slice aa p.k ac]) := Lib.hid ⟨by rw [← hw1]; exact (Below.refl _ w).alloc (Nat.le_refl _) _, by rw [← hw1, ← hb, al_new]⟩
    clear hc hk hl hl2 hR hh
    have e3 := cell_blk HX.out.box 3
    go_enter Tryd.func5, Tryd.ntmps5
    go_upto_region 3 with fail
    clear hw1 hb e3
    go_loopw [3, 4] (fun s3 ii wr => ∃ (j : Nat) (c : Nat), j ≤ p.k ∧ ii = .int .i64 j ∧ s3 = .int .i64 c ∧ Hid (c = (flat (Fs.take j) (1 + 1)).length + 1) ∧ Hid (Bx1 w wr b #[.int .u8 p.op, .string p.nm, .slice an nn nc, .slice aa p.k ac])) (fun s3 ii _ => p.k - (intOf ii).toNat)
    case atStart => exact ⟨0, 1, Nat.zero_le _, rfl, rfl, Lib.hid rfl, HX⟩
    case round =>
      clear HX
      obtain ⟨j, c, hj, rfl, rfl, HCC, HX⟩ := hrel
      have i0 : (0 : Int) ≤ (j : Int) := by omega
      have e3 := cell_blk HX.out.box 3
      have c0 : (0 : Int) ≤ (c : Int) := by omega
      have c1 : (c : Int) ≤ 1048576 := by
        have a := HCC.out
        have b := flat_len_take Fs (1 + 1) j
        have d := HLL.out
        omega
      by_cases jlt : j < p.k
      · have i1 : (j : Int) < p.k := by omega
        obtain ⟨q0, q, rfl, hx⟩ := HC.out (by omega)
        obtain ⟨x0, x1, x2, x3, g0, g1, g2, g3, hr⟩ := hx j (by rw [HK.out]; exact jlt)
        obtain ⟨p2, an2, nn2, nc2, aa2, ac2, ex, hh2⟩ := hr.head
        cases ex
        obtain ⟨G, hG⟩ : ∃ G : Tour, Fs[j]'(by rw [HK.out]; exact jlt) = G := ⟨_, rfl⟩
        rw [hG] at hr
        have g0 := cell_keep g0 HX.out.bw
        have g1 := cell_keep g1 HX.out.bw
        have g2 := cell_keep g2 HX.out.bw
        have g3 := cell_keep g3 HX.out.bw
        have HTK : Hid (flat (Fs.take (j + 1)) (1 + 1) = flat (Fs.take j) (1 + 1) ++ G (1 + 1)) := Lib.hid (by rw [flat_take Fs (1 + 1) (by rw [HK.out]; exact jlt), hG])
        have hgl : (G 1).length ≤ 1048576 := by
          have a := ex_len hr 1 (1 + 1)
          have b := congrArg List.length HTK.out
          rw [List.length_append] at b
          have d := flat_len_take Fs (1 + 1) (j + 1)
          have e := HLL.out
          omega
        have HIH := Lib.hid (IH.out _ G wr (hr.keep HX.out.bw) hgl)
        have HGL := Lib.hid (ex_len hr 1 (1 + 1))
        obtain ⟨L, hL⟩ : ∃ L, (G 1).length = L := ⟨_, rfl⟩
        rw [hL] at HIH HGL hgl
        have l0 : (0 : Int) ≤ (L : Int) := by omega
        have l1 : (L : Int) ≤ 1048576 := by omega
        clear hr hx hh2 hG hL hgl
        go_wp2_with fail
        (with_reducible refine HIH.out.mono ?_)
        rintro e w5 ⟨rfl, q⟩
        have HX := Lib.hid (HX.out.keep q)
        have HC2 : Hid (c + L = (flat (Fs.take (j + 1)) (1 + 1)).length + 1) := Lib.hid (by
          rw [HTK.out, List.length_append, HCC.out, ← HGL.out]; omega)
        clear q HIH g0 g1 g2 g3 e3
        go_wp2
        go_roundw
        case rel => exact ⟨j + 1, c + L, by omega, by go_num, by go_num, HC2, HX⟩
        case measure => simp [intOf]; omega
      · have i1 : (p.k : Int) ≤ (j : Int) := by omega
        obtain rfl : R = c := by
          have a := HCC.out
          rw [List.take_of_length_le (by rw [HK.out]; omega)] at a
          exact HR.out.trans a.symm
        go_wp2
        go_returns
        exact ⟨rfl, HX.out.bw⟩
end Go.Proofs.YtimjendkpjojoaaDoor
