/- The document's own answer for layer 9: all. -/
import Derived.Test.YtgealkflfmeicaaDoorE12
import Derived.Test.YtgealkflfmeicaaDoorE24
namespace Go.Proofs.YtgealkflfmeicaaDoor
set_option linter.unusedVariables false
set_option linter.unusedSimpArgs false
open Go.ChangeShapes Go.WideShapes Go.ChangeAt Go.RowKit
/-- The names, as they stand. -/
noncomputable def rawP (L : List Pt) : List ByteArray := (L.map (fun p => p.nm)).filter (fun s => !s.toList.isEmpty)
noncomputable def rawN (l : List (Pt × Int)) : List ByteArray := rawP (l.map (fun x => x.1))
theorem rawN_app (a b : List (Pt × Int)) : rawN (a ++ b) = rawN a ++ rawN b := by unfold rawN rawP; simp
theorem rawN_at {w : World} {n : Nat} {v : Value} {F : Tour} (h : ExAt w n v F) (d e : Int) : rawN (F d) = rawN (F e) := by unfold rawN; rw [ex_parts h d e]
theorem rawN_le (l : List (Pt × Int)) : (rawN l).length ≤ l.length := by
  unfold rawN rawP
  refine Nat.le_trans (List.length_filter_le _ _) ?_
  simp
noncomputable def hd1 (s : ByteArray) : List ByteArray := if s.toList.isEmpty then [] else [s]
theorem rawN_cons (p : Pt) (d : Int) (l : List (Pt × Int)) : rawN ((p, d) :: l) = hd1 p.nm ++ rawN l := by
  unfold rawN rawP hd1
  cases h : p.nm.toList.isEmpty <;> simp [h]
theorem Bx1.keep2 {w0 w w' : World} {b : Nat} {cs : Array Value} (h : Bx1 w0 w b cs) {s : ByteArray} (q : (w.alloc (.cells #[.string s] 9)).grownBy w' none) : Bx1 w0 w' b cs := by
  have A : Below w.heap.size w (w.alloc (.cells #[.string s] 9)) := (Below.refl _ w).alloc (Nat.le_refl _) _
  have B := A.grown q A.size (fun q e => by cases e)
  exact h.keep B
theorem Bx1.row {w0 w w' : World} {b n : Nat} {cs : Array Value} {v : Value} {xs : List Value} (h : Bx1 w0 w b cs) (r : w.ownsRow w0.heap.size 9 1 v n xs) (q : w.grownBy w' v.ownBlock) : Bx1 w0 w' b cs := by
  refine ⟨h.bw.grown q h.bw.size (fun q e => (r.lt q e).1), (q.block b (Array.getElem?_eq_some_iff.1 h.box).1 (fun e => ?_)).trans h.box⟩
  obtain ⟨cur, x⟩ := own_kind r e.symm
  rw [h.box] at x; cases x
set_option maxRecDepth 8000 in
set_option maxHeartbeats 2000000 in
theorem rall_any : ∀ (n : Nat) (v : Value) (F : Tour) (w : World), ExAt w n v F → (F 1).length ≤ 1048576 → Calls Tryd.prog 36 #[v] w fun e w' => ∃ v', e = .returned v' ∧ Hid (w'.ownsRow w.heap.size 9 1 v' (rawN (F 1)).length ((rawN (F 1)).map Value.string)) ∧ Hid (Below w.heap.size w w')
  | 0, _, _, _, h, _ => h.elim
  | n + 1, v, F, w, h, hl => by
    have IH := Lib.hid (fun v F w h hl => rall_any n v F w h hl)
    obtain ⟨p, an, nn, nc, aa, ac, Fs, rfl, hh, hk, rfl, hc⟩ := h
    unfold pv
    have HC := Lib.hid hc
    have HK := Lib.hid hk
    have hl2 : (flat Fs (1 + 1)).length + 1 ≤ 1048576 := by simpa using hl
    have HLL := Lib.hid hl2
    obtain ⟨R, hR⟩ : ∃ R, rawN ((fun d => (p, d) :: flat Fs (d + 1)) 1) = R := ⟨_, rfl⟩
    rw [hR]
    have HR : Hid (R = hd1 p.nm ++ rawN (flat Fs (1 + 1))) := Lib.hid (by rw [← hR, ← rawN_cons p 1])
    have k0 : (0 : Int) ≤ (p.k : Int) := by omega
    have k1 : (p.k : Int) ≤ 9223372036854775807 := by have := hh.le; have := hh.top; omega
    obtain ⟨b, hb⟩ : ∃ z, w.heap.size = z := ⟨_, rfl⟩
    obtain ⟨w1, hw1⟩ : ∃ z, w.alloc (.cells #[.int .u8 p.op, .string p.nm, .slice an nn nc, .slice aa p.k ac] 25) = z := ⟨_, rfl⟩
    have HX : Hid (Bx1 w w1 b #[.int .u8 p.op, .string p.nm, .slice an nn nc, .slice aa p.k ac]) := Lib.hid ⟨by rw [← hw1]; exact (Below.refl _ w).alloc (Nat.le_refl _) _, by rw [← hw1, ← hb, al_new]⟩
    clear hc hk hl hl2 hR hh
    have e1 := cell_blk HX.out.box 1
    go_enter Tryd.func36, Tryd.ntmps36
    go_upto_if 7 with fail
    go_cut [3] from 5 to 12 (fun s3 wr => Hid (Bx1 w wr b #[.int .u8 p.op, .string p.nm, .slice an nn nc, .slice aa p.k ac]) ∧ Hid (wr.ownsRow w.heap.size 9 1 s3 (hd1 p.nm).length ((hd1 p.nm).map Value.string)))
    case first =>
      clear hw1 hb
      cases z : p.nm.toList.isEmpty
      · have HZ := Lib.hid z
        have z1 : ¬ p.nm.toList = [] := by intro e; rw [e] at z; cases z
        have z2 : (!p.nm.toList.isEmpty) = true := by rw [z]; rfl
        have HR0 : Hid (w1.ownsRow w.heap.size 9 1 (.slice none 0 0) ([] : List ByteArray).length (([] : List ByteArray).map Value.string)) := Lib.hid (World.ownsRow_nil _ _ _ _)
        clear z
        go_wp2_with (at_builtin; go_loud (refine appS rfl _ _ rfl w.heap.size _ (.slice none 0 0) 0 [] rfl ((HR0.out).alloc _) w1.heap.size 1 #[.string p.nm] rfl (al_new w1 _) rfl (by simp [Value.oneCell']) (by omega) (by have := HX.out.bw.size; simp; omega) ?_); intro v6 w6 HO6 HG6; have HO6 := Lib.hid HO6; have HG6 := Lib.hid HG6)
        go_meet
        case rel => exact ⟨Lib.hid (HX.out.keep2 HG6.out), Lib.hid (by have := HO6.out; unfold hd1; rw [HZ.out]; simpa using this)⟩
      · have HZ := Lib.hid z
        have z1 : p.nm.toList = [] := List.isEmpty_iff.1 z
        have z2 : (!p.nm.toList.isEmpty) = false := by rw [z]; rfl
        clear z
        go_wp2
        go_meet
        case rel => exact ⟨HX, Lib.hid (by unfold hd1; rw [HZ.out]; exact World.ownsRow_nil _ _ _ _)⟩
    case rest =>
      clear HX
      obtain ⟨HX, HO⟩ := hcut
      have e3 := cell_blk HX.out.box 3
      go_wp2
      clear e3
      go_loopw [3, 4] (fun s3 ii wr => ∃ (j : Nat), j ≤ p.k ∧ ii = .int .i64 j ∧ Hid (wr.ownsRow w.heap.size 9 1 s3 (hd1 p.nm ++ rawN (flat (Fs.take j) (1 + 1))).length ((hd1 p.nm ++ rawN (flat (Fs.take j) (1 + 1))).map Value.string)) ∧ Hid (Bx1 w wr b #[.int .u8 p.op, .string p.nm, .slice an nn nc, .slice aa p.k ac])) (fun s3 ii _ => p.k - (intOf ii).toNat)
      case atStart => exact ⟨0, Nat.zero_le _, rfl, Lib.hid (by have := HO.out; simpa [flat, rawN, rawP] using this), HX⟩
      case round =>
        clear HX HO
        obtain ⟨j, hj, rfl, HO, HX⟩ := hrel
        have i0 : (0 : Int) ≤ (j : Int) := by omega
        have e3 := cell_blk HX.out.box 3
        by_cases jlt : j < p.k
        · have i1 : (j : Int) < p.k := by omega
          obtain ⟨q0, q, rfl, hx⟩ := HC.out (by omega)
          obtain ⟨x0, x1, x2, x3, g0, g1, g2, g3, hr⟩ := hx j (by rw [HK.out]; exact jlt)
          obtain ⟨p2, an2, nn2, nc2, aa2, ac2, ex, hh2⟩ := hr.head
          cases ex
          obtain ⟨G, hG⟩ : ∃ G : Tour, Fs[j]'(by rw [HK.out]; exact jlt) = G := ⟨_, rfl⟩
          rw [hG] at hr
          have g0 := cell_keep g0 HX.out.bw
          have g1 := cell_keep g1 HX.out.bw
          have g2 := cell_keep g2 HX.out.bw
          have g3 := cell_keep g3 HX.out.bw
          have HTK : Hid (flat (Fs.take (j + 1)) (1 + 1) = flat (Fs.take j) (1 + 1) ++ G (1 + 1)) := Lib.hid (by rw [flat_take Fs (1 + 1) (by rw [HK.out]; exact jlt), hG])
          have hgl : (G 1).length + (flat (Fs.take j) (1 + 1)).length + 1 ≤ 1048576 := by
            have a := ex_len hr 1 (1 + 1)
            have b := congrArg List.length HTK.out
            rw [List.length_append] at b
            have d := flat_len_take Fs (1 + 1) (j + 1)
            have e := HLL.out
            omega
          have HIH := Lib.hid (IH.out _ G wr (hr.keep HX.out.bw) (by omega))
          have HGR := Lib.hid (rawN_at hr (1 + 1) 1)
          have HGL := Lib.hid hgl
          clear hr hx hh2 hG hgl
          go_wp2_with fail
          (with_reducible refine HIH.out.mono ?_)
          rintro e w5 ⟨v5, rfl, HV5, q5⟩
          have HX := Lib.hid (HX.out.keep q5.out)
          have HO := Lib.hid (keepB HO.out q5.out)
          obtain ⟨o5, c5, rfl, hs5, hc5⟩ := own_st2 HV5.out
          have HS5 := Lib.hid hs5
          have HC5 := Lib.hid hc5
          have HL5 := Lib.hid (rawN_le (G 1))
          have HH1 : Hid ((hd1 p.nm).length ≤ 1) := Lib.hid (by unfold hd1; split <;> simp)
          have HL6 := Lib.hid (rawN_le (flat (Fs.take j) (1 + 1)))
          have HB5 := Lib.hid (HX.out.bw.size)
          clear q5 HIH g0 g1 g2 g3 e3 hs5 hc5 HV5
          go_wp2_with (at_builtin; go_loud (refine appT rfl _ _ rfl w.heap.size w5 u3 _ _ rfl HO.out o5 (rawN (G 1)).length c5 (rawN (G 1)) rfl HS5.out HC5.out (by have := HL5.out; have := HH1.out; have := HL6.out; have := HGL.out; rw [List.length_append]; omega) HB5.out ?_); intro v6 w6 HO6 HG6; have HO6 := Lib.hid HO6; have HG6 := Lib.hid HG6)
          have HX6 := Lib.hid (HX.out.row HO.out HG6.out)
          have HO7 : Hid (w6.ownsRow w.heap.size 9 1 v6 (hd1 p.nm ++ rawN (flat (Fs.take (j + 1)) (1 + 1))).length ((hd1 p.nm ++ rawN (flat (Fs.take (j + 1)) (1 + 1))).map Value.string)) := Lib.hid (by
            have a := HO6.out
            rw [HTK.out, rawN_app, HGR.out, ← List.append_assoc, List.length_append, List.map_append]
            exact a)
          clear HO6 HG6
          go_roundw
          case rel => exact ⟨j + 1, by omega, by go_num, HO7, HX6⟩
          case measure => simp [intOf]; omega
        · have i1 : (p.k : Int) ≤ (j : Int) := by omega
          have HO2 : Hid (wr.ownsRow w.heap.size 9 1 u3 R.length (R.map Value.string)) := Lib.hid (by
            have a := HO.out
            rw [List.take_of_length_le (by rw [HK.out]; omega), ← HR.out] at a
            exact a)
          have HBW := Lib.hid HX.out.bw
          clear HO HX
          obtain ⟨o5, c5, rfl⟩ := row_shape HO2.out
          go_wp2
          go_returns
          exact ⟨_, rfl, HO2, HBW⟩
end Go.Proofs.YtgealkflfmeicaaDoor
