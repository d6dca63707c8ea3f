/- Y2 in one. -/
import Derived.Test.YtmjapbjjfhmohaaKaf
import Derived.Test.YtmjapbjjfhmohaaKag
import Derived.BigRegion
namespace Go.Proofs.Ytmjapbjjfhmohaa
set_option linter.unusedVariables false
set_option linter.unusedSimpArgs false
open Go.ChangeShapes Go.WideShapes Go.ChangeAt Go.RowKit Go.Shelf

theorem get_tell (F : Fv) (x : Int) (W : World) (h : F.At W) (ok : F.Ok) : Calls Try.prog 13 #[F.v, .int .i64 x] W fun e w' => ∃ (ao : Option Addr) (n c : Nat) (L : List Sp) (k : Int), e = .returned (.tuple #[.slice ao n c, .int .i64 k]) ∧ Hid (Below W.heap.size W w') ∧ Hid (SpAt w' ao n c L) ∧ ((k = 0 ∧ Hid (Told x (gr F x) ∧ L = gr F x)) ∨ (k = 20 ∧ Hid (¬ Told x (gr F x)))) := by
  refine (get_any F x W h ok).mono ?_
  rintro e w' ⟨v, k, rfl, q, y⟩
  rcases y.out with ⟨a, rfl, c⟩ | ⟨a, rfl, rfl⟩
  · obtain ⟨ao, n, rfl, s⟩ := own_sp rfl c
    exact ⟨ao, _, n, _, 0, rfl, Lib.hid q, Lib.hid s, .inl ⟨rfl, Lib.hid ⟨a, rfl⟩⟩⟩
  · exact ⟨none, 0, 0, [], 20, rfl, Lib.hid q, Lib.hid (SpAt.nil _), .inr ⟨rfl, Lib.hid a⟩⟩
/-- Forms, boxed. -/
structure Two (w W : World) (b1 b2 : Nat) (Fa Fb : Fv) : Prop where
  a : Fbox Fa w W b1
  b : Fbox Fb w W b2
theorem Two.keep {w W W' : World} {b1 b2 : Nat} {Fa Fb : Fv} (h : Two w W b1 b2 Fa Fb) (k : Below W.heap.size W W') : Two w W' b1 b2 Fa Fb := ⟨h.a.keep k, h.b.keep k⟩
structure Three (w W : World) (b1 b2 b3 : Nat) (Fa Fb Fc : Fv) : Prop where
  a : Fbox Fa w W b1
  b : Fbox Fb w W b2
  c : Fbox Fc w W b3
theorem Three.keep {w W W' : World} {b1 b2 b3 : Nat} {Fa Fb Fc : Fv} (h : Three w W b1 b2 b3 Fa Fb Fc) (k : Below W.heap.size W W') : Three w W' b1 b2 b3 Fa Fb Fc := ⟨h.a.keep k, h.b.keep k, h.c.keep k⟩
theorem fbox_in {F : Fv} {w0 w : World} {b : Nat} (h : F.At w) (hb : w.heap.size = b) (k : Below w0.heap.size w0 w) : Fbox F w0 (w.alloc (.cells F.box 25)) b := by
  have q := (Below.refl _ w).alloc (Nat.le_refl _) (.cells F.box 25)
  have hh : (w.alloc (.cells F.box 25)).heap[b]? = some (.cells F.box 25 (0, 0)) := heap_at hb
  exact ⟨h.keep q, cell_block hh 0, cell_block hh 1, cell_block hh 2, cell_block hh 3, k.trans (q.mono k.size)⟩
theorem can_few {K G : Fv} (c : IsCan K G) (f : Full K.cs K.N ∨ K.cs = []) (h : K.Few) (l1 : K.cs.length = K.cn) (l2 : K.os.length = K.on) (l3 : G.os.length = G.on) : G.Few := by
  obtain ⟨a, b, d, e⟩ := h
  refine ⟨?_, ?_, fun l hl => ?_, fun o ho => ?_⟩
  · rcases c.turn with ⟨h, _⟩ | ⟨⟨l, hl, _⟩, h, _⟩
    · omega
    · rcases f with f | f
      · have := turn_le f h; omega
      · rw [f] at hl; cases hl
  · have := List.length_filter_le (fun o : Gr => !(decide (o.2 = cg K.cs K.P K.N o.1))) K.os
    have e : G.os.length ≤ K.os.length := by rw [c.os]; exact this
    omega
  · rw [c.cs] at hl; exact d l (List.mem_of_mem_take hl)
  · rw [c.os] at ho; exact e o (List.mem_filter.1 ho).1
theorem can_is {K G : Fv} (c : IsCan K G) (f : Full K.cs K.N ∨ K.cs = []) : IsTurn G.cs G.P G.N G.cn ∧ ∀ o ∈ G.os, o.2 ≠ cg G.cs G.P G.N o.1 := by
  have h := can_can c f
  refine ⟨h.turn, fun o ho => ?_⟩
  rw [h.os] at ho
  simpa using (List.mem_filter.1 ho).2
set_option maxRecDepth 8000 in
set_option maxHeartbeats 4000000 in
theorem shift_all (F : Fv) (m i0 : Int) (w : World) (hF : F.At w) (hm1 : -9223372036854775808 ≤ m) (hm2 : m ≤ 9223372036854775807) (hi1 : -2147483648 ≤ i0) (hi2 : i0 ≤ 2147483647) :
    Calls Try.prog 4 #[F.v, .int .i64 m, .int .i32 i0] w fun e w' => e = .returned (.bool true) ∧ Below w.heap.size w w' := by
  have HAW := Lib.hid (fun W => awake_any W)
  obtain ⟨r, hr⟩ : ∃ r : Bool, r = true ↔ F.Small ∧ F.Rt := by classical exact ⟨decide _, decide_eq_true_iff⟩
  have HRI := Lib.hid hr
  have CR := Lib.hid (fun W (h : F.At W) => right_any2 F W h r hr)
  have hmx : F.cn ≤ 9223372036854775807 := Nat.le_trans hF.core.le hF.core.top
  have HLC := Lib.hid hF.core.len
  obtain ⟨P, N, co, cn, cc, oo, on, oc, cs, os⟩ := F
  have HLC : Hid (cs.length = cn) := HLC
  have CR : Hid (∀ W, Fv.At ⟨P, N, co, cn, cc, oo, on, oc, cs, os⟩ W → Calls Try.prog 6 #[.agg #[.int .i64 P, .int .i64 N, .slice co cn cc, .slice oo on oc]] W fun e w' => e = .returned (.bool r) ∧ Below W.heap.size W w') := CR
  obtain ⟨b, hb⟩ : ∃ b, w.heap.size = b := ⟨_, rfl⟩
  obtain ⟨wb, hwb⟩ : ∃ wb, w.alloc (.cells #[.int .i64 P, .int .i64 N, .slice co cn cc, .slice oo on oc] 25) = wb := ⟨_, rfl⟩
  have HX : Hid (Fbox ⟨P, N, co, cn, cc, oo, on, oc, cs, os⟩ w wb b) := Lib.hid (by rw [← hwb, ← hb]; exact fbox_new hF)
  clear hF hr
  show Calls Try.prog 4 #[.agg #[.int .i64 P, .int .i64 N, .slice co cn cc, .slice oo on oc], .int .i64 m, .int .i32 i0] w _
  go_enter Try.func4, Try.ntmps4
  go_upto_region 1 with fail
  clear hwb hb
  have e0 := HX.out.c0
  have e1 := HX.out.c1
  have e2 := HX.out.c2
  have e3 := HX.out.c3
  go_wp2_with fail
  (with_reducible refine (CR.out _ HX.out.at_).mono ?_)
  rintro e w1 ⟨rfl, q⟩
  have HX := Lib.hid (HX.out.keep q)
  clear q e0 e1 e2 e3 CR
  cases r
  · go_wp2_with fail
    (with_reducible refine (HAW.out _).mono ?_)
    rintro e wz ⟨rfl, qz⟩
    have HZ := Lib.hid (HX.out.bw.trans (qz.mono HX.out.bw.size))
    clear qz
    go_wp2
    go_returns
    exact ⟨rfl, HZ.out⟩
  · have HSR := Lib.hid (HRI.out.1 rfl)
    clear HRI
    have CS : Hid (∀ W, Fv.At ⟨P, N, co, cn, cc, oo, on, oc, cs, os⟩ W → Calls Try.prog 12 #[.agg #[.int .i64 P, .int .i64 N, .slice co cn cc, .slice oo on oc], .int .i64 m] W fun e w' => ShOut ⟨P, N, co, cn, cc, oo, on, oc, cs, os⟩ m W.heap.size e w' ∧ Hid (Below W.heap.size W w')) := Lib.hid (fun W h => shift_few ⟨P, N, co, cn, cc, oo, on, oc, cs, os⟩ m W h HSR.out.1.few HSR.out.2 hm1 hm2)
    have CG := Lib.hid (fun W x (h : Fv.At ⟨P, N, co, cn, cc, oo, on, oc, cs, os⟩ W) => get_tell ⟨P, N, co, cn, cc, oo, on, oc, cs, os⟩ x W h (HSR.out.2.okm HSR.out.1.mid))
    have CF := Lib.hid (fun W (h : Fv.At ⟨P, N, co, cn, cc, oo, on, oc, cs, os⟩ W) => form_can ⟨P, N, co, cn, cc, oo, on, oc, cs, os⟩ W h (HSR.out.2.okm HSR.out.1.mid) HSR.out.2 (fun W h => right_small ⟨P, N, co, cn, cc, oo, on, oc, cs, os⟩ W h HSR.out.1 true ⟨fun _ => HSR.out.2, fun _ => rfl⟩))
    have e0 := HX.out.c0
    have e1 := HX.out.c1
    have e2 := HX.out.c2
    have e3 := HX.out.c3
    go_wp2_with fail
    (with_reducible refine (CS.out _ HX.out.at_).mono ?_)
    rintro e w2 ⟨ho, q⟩
    have HX := Lib.hid (HX.out.keep q.out)
    have HBW : Hid (Below w.heap.size w w2) := Lib.hid HX.out.bw
    clear e0 e1 e2 e3 CS q
    have j1 : -1073741824 ≤ i0 / 2 := by omega
    have j2 : i0 / 2 ≤ 1073741824 := by omega
    rcases ho with ⟨h1, rfl⟩ | ⟨h1, h2, rfl⟩ | ⟨h1, K, G, hk, krt, hc, hown, rfl⟩
    · have HBW : Hid (Below w.heap.size w (w2.alloc (.cells #[.int .i64 0, .int .i64 0, .slice none 0 0, .slice none 0 0] 25))) := Lib.hid (HBW.out.trans (((Below.refl _ w2).alloc (Nat.le_refl _) _).mono HBW.out.size))
      by_cases lo : m < -1099511627776
      · have t1 : decide (m < -1099511627776) = true := by simp; exact lo
        go_wp2_with fail
        (with_reducible refine (HAW.out _).mono ?_)
        rintro e wz ⟨rfl, qz⟩
        have HZ := Lib.hid (HBW.out.trans (qz.mono HBW.out.size))
        clear qz
        go_wp2
        go_returns
        exact ⟨rfl, HZ.out⟩
      · have hi : 1099511627776 < m := by unfold InR at h1; omega
        have t1 : decide (m < -1099511627776) = false := by simp; omega
        have t2 : decide (1099511627776 < m) = true := by simp; exact hi
        go_wp2_with fail
        (with_reducible refine (HAW.out _).mono ?_)
        rintro e wz ⟨rfl, qz⟩
        have HZ := Lib.hid (HBW.out.trans (qz.mono HBW.out.size))
        clear qz
        go_wp2
        go_returns
        exact ⟨rfl, HZ.out⟩
    · have HBW : Hid (Below w.heap.size w (w2.alloc (.cells #[.int .i64 0, .int .i64 0, .slice none 0 0, .slice none 0 0] 25))) := Lib.hid (HBW.out.trans (((Below.refl _ w2).alloc (Nat.le_refl _) _).mono HBW.out.size))
      have t1 : decide (m < -1099511627776) = false := by have := h1.1; simp; omega
      have t2 : decide (1099511627776 < m) = false := by have := h1.2; simp; omega
      clear h1 h2
      go_wp2_with fail
      (with_reducible refine (HAW.out _).mono ?_)
      rintro e wz ⟨rfl, qz⟩
      have HZ := Lib.hid (HBW.out.trans (qz.mono HBW.out.size))
      clear qz
      go_wp2
      go_returns
      exact ⟨rfl, HZ.out⟩
    · obtain ⟨P2, N2, co2, cn2, cc2, oo2, on2, oc2, cs2, os2⟩ := G
      have HRF := Lib.hid HSR.out.2
      have HLF : Hid (os.length = on) := Lib.hid HX.out.at_.odd.len
      have HK := Lib.hid hk
      have HLK : Hid (K.cs.length = K.cn) := Lib.hid (by rw [hk.1.2.2.1, shCs_len, hk.2.1]; exact HLC.out)
      have HLO : Hid (K.os.length = K.on) := Lib.hid (by rw [hk.1.2.2.2, hk.2.2]; show (List.map _ os).length = on; rw [List.length_map]; exact HLF.out)
      have HKR := Lib.hid krt
      have HC := Lib.hid hc
      have HGA : Hid (Fv.At ⟨P2, N2, co2, cn2, cc2, oo2, on2, oc2, cs2, os2⟩ w2) := Lib.hid hown.at_
      have HLG : Hid (cs2.length = cn2) := Lib.hid HGA.out.core.len
      have HLH : Hid (os2.length = on2) := Lib.hid HGA.out.odd.len
      have HRG : Hid (Fv.Rt ⟨P2, N2, co2, cn2, cc2, oo2, on2, oc2, cs2, os2⟩) := Lib.hid (can_rt hc krt HLK.out)
      have HFK := Lib.hid (full_of krt HLK.out)
      have HKF : Hid (K.Few) := Lib.hid (by
        have h := sh_few hk HSR.out.1.few HLC.out HLF.out
        exact ⟨by rw [hk.2.1]; exact HSR.out.1.1, by rw [hk.2.2]; exact HSR.out.1.2.1, h.2.1, h.2.2⟩)
      have HFW : Hid (Fv.Few ⟨P2, N2, co2, cn2, cc2, oo2, on2, oc2, cs2, os2⟩) := Lib.hid (can_few hc HFK.out HKF.out HLK.out HLO.out HLH.out)
      have HMG := Lib.hid (HFW.out.mid HLG.out HLH.out)
      have HGR : Hid (∀ x, gr ⟨P2, N2, co2, cn2, cc2, oo2, on2, oc2, cs2, os2⟩ x = gr ⟨P, N, co, cn, cc, oo, on, oc, cs, os⟩ (x - m)) := Lib.hid (fun x => sh_gr hk hc HSR.out.2 HLC.out x)
      have m1 : -1099511627776 ≤ m := h1.1
      have m2 : m ≤ 1099511627776 := h1.2
      have CG : Hid (∀ W (x : Int), Fv.At ⟨P, N, co, cn, cc, oo, on, oc, cs, os⟩ W → Calls Try.prog 13 #[.agg #[.int .i64 P, .int .i64 N, .slice co cn cc, .slice oo on oc], .int .i64 x] W fun e w' => ∃ (ao : Option Addr) (n c : Nat) (L : List Sp) (k : Int), e = .returned (.tuple #[.slice ao n c, .int .i64 k]) ∧ Hid (Below W.heap.size W w') ∧ Hid (SpAt w' ao n c L) ∧ ((k = 0 ∧ Hid (Told x (gr ⟨P, N, co, cn, cc, oo, on, oc, cs, os⟩ x) ∧ L = gr ⟨P, N, co, cn, cc, oo, on, oc, cs, os⟩ x)) ∨ (k = 20 ∧ Hid (¬ Told x (gr ⟨P, N, co, cn, cc, oo, on, oc, cs, os⟩ x))))) := CG
      have CG2 : Hid (∀ W (x : Int), Fv.At ⟨P2, N2, co2, cn2, cc2, oo2, on2, oc2, cs2, os2⟩ W → Calls Try.prog 13 #[.agg #[.int .i64 P2, .int .i64 N2, .slice co2 cn2 cc2, .slice oo2 on2 oc2], .int .i64 x] W fun e w' => ∃ (ao : Option Addr) (n c : Nat) (L : List Sp) (k : Int), e = .returned (.tuple #[.slice ao n c, .int .i64 k]) ∧ Hid (Below W.heap.size W w') ∧ Hid (SpAt w' ao n c L) ∧ ((k = 0 ∧ Hid (Told x (gr ⟨P2, N2, co2, cn2, cc2, oo2, on2, oc2, cs2, os2⟩ x) ∧ L = gr ⟨P2, N2, co2, cn2, cc2, oo2, on2, oc2, cs2, os2⟩ x)) ∨ (k = 20 ∧ Hid (¬ Told x (gr ⟨P2, N2, co2, cn2, cc2, oo2, on2, oc2, cs2, os2⟩ x))))) := Lib.hid (fun W x h => get_tell ⟨P2, N2, co2, cn2, cc2, oo2, on2, oc2, cs2, os2⟩ x W h (HRG.out.okm HMG.out))
      have CS2 : Hid (∀ W, Fv.At ⟨P2, N2, co2, cn2, cc2, oo2, on2, oc2, cs2, os2⟩ W → Calls Try.prog 12 #[.agg #[.int .i64 P2, .int .i64 N2, .slice co2 cn2 cc2, .slice oo2 on2 oc2], .int .i64 (-m)] W fun e w' => ShOut ⟨P2, N2, co2, cn2, cc2, oo2, on2, oc2, cs2, os2⟩ (-m) W.heap.size e w' ∧ Hid (Below W.heap.size W w')) := Lib.hid (fun W h => shift_few ⟨P2, N2, co2, cn2, cc2, oo2, on2, oc2, cs2, os2⟩ (-m) W h HFW.out HRG.out (by omega) (by omega))
      have CI2 : Hid (∀ W, Fv.At ⟨P2, N2, co2, cn2, cc2, oo2, on2, oc2, cs2, os2⟩ W → Calls Try.prog 15 #[.agg #[.int .i64 P2, .int .i64 N2, .slice co2 cn2 cc2, .slice oo2 on2 oc2]] W fun e w' => e = .returned (.bool true) ∧ Below W.heap.size W w') := Lib.hid (fun W h => is_right ⟨P2, N2, co2, cn2, cc2, oo2, on2, oc2, cs2, os2⟩ W h (HRG.out.okm HMG.out) (fun W h => right_mid ⟨P2, N2, co2, cn2, cc2, oo2, on2, oc2, cs2, os2⟩ W h HMG.out true ⟨fun _ => HRG.out, fun _ => rfl⟩) true ⟨fun _ => can_is HC.out HFK.out, fun _ => rfl⟩)
      have D1 : Hid (∀ W, Fv.At ⟨P, N, co, cn, cc, oo, on, oc, cs, os⟩ W → Calls Try.prog 16 #[.agg #[.int .i64 P, .int .i64 N, .slice co cn cc, .slice oo on oc]] W fun e w' => ∃ p n c l k o m j g s, e = .returned (.agg #[.int .i64 p, .int .i64 n, .slice c l k, .slice o m j]) ∧ Hid (IsCan ⟨P, N, co, cn, cc, oo, on, oc, cs, os⟩ ⟨p, n, c, l, k, o, m, j, g, s⟩ ∧ Fv.At ⟨p, n, c, l, k, o, m, j, g, s⟩ w') ∧ Below W.heap.size W w') := Lib.hid (fun W h => (CF.out W h).mono (by
        rintro e w' ⟨⟨p, n, c, l, k, o, m, j, g, s⟩, rfl, hc, ho, hb⟩
        exact ⟨p, n, c, l, k, o, m, j, g, s, rfl, Lib.hid ⟨hc, ho.at_⟩, hb⟩))
      clear hk krt hc hown h1 CF
      obtain ⟨b2, hb2⟩ : ∃ z, w2.heap.size = z := ⟨_, rfl⟩
      obtain ⟨w3, hw3⟩ : ∃ z, w2.alloc (.cells #[.int .i64 P2, .int .i64 N2, .slice co2 cn2 cc2, .slice oo2 on2 oc2] 25) = z := ⟨_, rfl⟩
      have HT : Hid (Two w w3 b b2 ⟨P, N, co, cn, cc, oo, on, oc, cs, os⟩ ⟨P2, N2, co2, cn2, cc2, oo2, on2, oc2, cs2, os2⟩) := Lib.hid (by rw [← hw3]; exact ⟨HX.out.keep ((Below.refl _ w2).alloc (Nat.le_refl _) _), fbox_in HGA.out hb2 HBW.out⟩)
      have HWX := Lib.hid hw3
      have HBX := Lib.hid hb2
      clear hw3 hb2 HX HBW HGA
      go_upto_region 7 with fail
      rw [HWX.out]
      try rw [HBX.out]
      clear HWX HBX
      obtain ⟨h, hh⟩ : ∃ z, w3.heap.size = z := ⟨_, rfl⟩
      obtain ⟨w4, hw4⟩ : ∃ z, w3.alloc (.cells #[.int .i64 (i0 / 2), .int .i64 m, .int .i64 (m + 1), .int .i64 0] 3) = z := ⟨_, rfl⟩
      have q4 : Below w3.heap.size w3 w4 := by rw [← hw4]; exact (Below.refl _ w3).alloc (Nat.le_refl _) _
      have HT := Lib.hid (HT.out.keep q4)
      have HV : Hid (w4.heap[h]? = some (.cells #[.int .i64 (i0 / 2), .int .i64 m, .int .i64 (m + 1), .int .i64 0] 3 (0, 0))) := Lib.hid (by rw [← hw4]; exact heap_at hh)
      have HWX := Lib.hid hw4
      have HBX := Lib.hid hh
      clear hw4 hh q4
      go_upto_region 8 with fail
      try rw [HWX.out]
      try rw [HBX.out]
      clear HWX HBX
      go_loopw [11, 12, 13, 14, 15, 59] (fun s11 s12 s13 s14 s15 ii wr => ∃ k : Nat, k ≤ 4 ∧ ii = .int .i64 k ∧ Hid (Two w wr b b2 ⟨P, N, co, cn, cc, oo, on, oc, cs, os⟩ ⟨P2, N2, co2, cn2, cc2, oo2, on2, oc2, cs2, os2⟩) ∧ Hid (wr.heap[h]? = some (.cells #[.int .i64 (i0 / 2), .int .i64 m, .int .i64 (m + 1), .int .i64 0] 3 (0, 0)))) (fun s11 s12 s13 s14 s15 ii _ => 4 - (intOf ii).toNat)
      case atStart => exact ⟨0, by omega, rfl, HT, HV⟩
      case round =>
        clear HT HV
        obtain ⟨k, k4, rfl, HT, HV⟩ := hrel
        by_cases kl : k < 4
        · obtain ⟨X, xc, x1, x2⟩ : ∃ X : Int, wr.cell? ⟨h, k, none⟩ = some (.int .i64 X) ∧ -2199023255552 ≤ X ∧ X ≤ 2199023255552 := by
            have : k = 0 ∨ k = 1 ∨ k = 2 ∨ k = 3 := by omega
            rcases this with rfl | rfl | rfl | rfl
            · exact ⟨_, cell_block HV.out 0, by omega, by omega⟩
            · exact ⟨_, cell_block HV.out 1, by omega, by omega⟩
            · exact ⟨_, cell_block HV.out 2, by omega, by omega⟩
            · exact ⟨_, cell_block HV.out 3, by omega, by omega⟩
          have k1 : (k : Int) < 4 := by omega
          have a0 := HT.out.a.c0
          have a1 := HT.out.a.c1
          have a2 := HT.out.a.c2
          have a3 := HT.out.a.c3
          go_wp2_with fail
          (with_reducible refine (CG.out _ _ HT.out.a.at_).mono ?_)
          rintro e u1 ⟨sa, sn, sc, L1, e1, rfl, q, y1, d1⟩
          have HT := Lib.hid (HT.out.keep q.out)
          have HV := Lib.hid (heap_keep HV.out q.out)
          clear q a0 a1 a2 a3 xc
          have a0 := HT.out.b.c0
          have a1 := HT.out.b.c1
          have a2 := HT.out.b.c2
          have a3 := HT.out.b.c3
          go_wp2_with fail
          (with_reducible refine (CG2.out _ _ HT.out.b.at_).mono ?_)
          rintro e u2 ⟨ta, tn, tc, L2, e2, rfl, q, y2, d2⟩
          have HT := Lib.hid (HT.out.keep q.out)
          have HV := Lib.hid (heap_keep HV.out q.out)
          have y1 := Lib.hid (y1.out.keep q.out)
          clear q a0 a1 a2 a3
          have HGX : Hid (gr ⟨P2, N2, co2, cn2, cc2, oo2, on2, oc2, cs2, os2⟩ X = gr ⟨P, N, co, cn, cc, oo, on, oc, cs, os⟩ (X - m)) := Lib.hid (HGR.out X)
          rcases d1 with ⟨rfl, h1⟩ | ⟨rfl, h1⟩
          · rcases d2 with ⟨rfl, h2⟩ | ⟨rfl, h2⟩
            · have HSA := Lib.hid (same_any ta sa tn tc sn sc L2 L1 u2 y2.out y1.out true ⟨fun _ => by rw [h2.out.2, h1.out.2]; exact HGX.out, fun _ => rfl⟩)
              go_wp2_with fail
              (with_reducible refine HSA.out.mono ?_)
              rintro e u3 ⟨rfl, q⟩
              have HT := Lib.hid (HT.out.keep q)
              have HV := Lib.hid (heap_keep HV.out q)
              clear q HSA y1 y2 h1 h2 HGX
              go_wp2_with fail
              go_roundw
              case rel => exact ⟨k + 1, by omega, by go_num, HT, HV⟩
              case measure => simp [intOf]; omega
            · have HNX : Hid (¬ InR X) := Lib.hid (fun z => h2.out ⟨z, by rw [HGX.out]; exact h1.out.1.2⟩)
              clear h1 h2 y1 y2 HGX
              by_cases lo : -1099511627776 ≤ X
              · have hi : ¬ X ≤ 1099511627776 := fun z => HNX.out ⟨lo, z⟩
                clear HNX
                go_wp2_with fail
                go_roundw
                case rel => exact ⟨k + 1, by omega, by go_num, HT, HV⟩
                case measure => simp [intOf]; omega
              · clear HNX
                go_wp2_with fail
                go_roundw
                case rel => exact ⟨k + 1, by omega, by go_num, HT, HV⟩
                case measure => simp [intOf]; omega
          · clear h1 y1 y2 HGX d2
            go_wp2_with fail
            go_roundw
            case rel => exact ⟨k + 1, by omega, by go_num, HT, HV⟩
            case measure => simp [intOf]; omega
        · obtain rfl : k = 4 := by omega
          clear HV
          have a0 := HT.out.b.c0
          have a1 := HT.out.b.c1
          have a2 := HT.out.b.c2
          have a3 := HT.out.b.c3
          go_wp2_with fail
          (with_reducible refine (CS2.out _ HT.out.b.at_).mono ?_)
          rintro e w5 ⟨ho, q⟩
          have HT := Lib.hid (HT.out.keep q.out)
          clear q a0 a1 a2 a3 CS2
          rcases ho with ⟨h1, _⟩ | ⟨h1, h2, rfl⟩ | ⟨h1, K2, GQ, hk2, krt2, hc2, hown2, rfl⟩
          · exact absurd ⟨by omega, by omega⟩ h1
          · obtain ⟨w6, hw6⟩ : ∃ z, w5.alloc (.cells #[.int .i64 0, .int .i64 0, .slice none 0 0, .slice none 0 0] 25) = z := ⟨_, rfl⟩
            have HXT : Hid (Two w w6 b b2 ⟨P, N, co, cn, cc, oo, on, oc, cs, os⟩ ⟨P2, N2, co2, cn2, cc2, oo2, on2, oc2, cs2, os2⟩) := Lib.hid (by rw [← hw6]; exact HT.out.keep ((Below.refl _ w5).alloc (Nat.le_refl _) _))
            have HWX := Lib.hid hw6
            clear h1 h2 hw6 HT
            have HS : Hid (∀ W, Two w W b b2 ⟨P, N, co, cn, cc, oo, on, oc, cs, os⟩ ⟨P2, N2, co2, cn2, cc2, oo2, on2, oc2, cs2, os2⟩ → W.cell? ⟨b, 0, none⟩ = some (.int .i64 P) ∧ W.cell? ⟨b, 1, none⟩ = some (.int .i64 N) ∧ W.cell? ⟨b, 2, none⟩ = some (.slice co cn cc) ∧ W.cell? ⟨b, 3, none⟩ = some (.slice oo on oc) ∧ W.cell? ⟨b2, 0, none⟩ = some (.int .i64 P2) ∧ W.cell? ⟨b2, 1, none⟩ = some (.int .i64 N2) ∧ W.cell? ⟨b2, 2, none⟩ = some (.slice co2 cn2 cc2) ∧ W.cell? ⟨b2, 3, none⟩ = some (.slice oo2 on2 oc2) ∧ Hid (Two w W b b2 ⟨P, N, co, cn, cc, oo, on, oc, cs, os⟩ ⟨P2, N2, co2, cn2, cc2, oo2, on2, oc2, cs2, os2⟩)) := Lib.hid (fun W h => ⟨h.a.c0, h.a.c1, h.a.c2, h.a.c3, h.b.c0, h.b.c1, h.b.c2, h.b.c3, Lib.hid h⟩)
            go_upto_region 16 with fail
            try rw [HWX.out]
            clear HWX
            refine wp_region_held_drew (S := (fun W => W.cell? ⟨b, 0, none⟩ = some (.int .i64 P) ∧ W.cell? ⟨b, 1, none⟩ = some (.int .i64 N) ∧ W.cell? ⟨b, 2, none⟩ = some (.slice co cn cc) ∧ W.cell? ⟨b, 3, none⟩ = some (.slice oo on oc) ∧ W.cell? ⟨b2, 0, none⟩ = some (.int .i64 P2) ∧ W.cell? ⟨b2, 1, none⟩ = some (.int .i64 N2) ∧ W.cell? ⟨b2, 2, none⟩ = some (.slice co2 cn2 cc2) ∧ W.cell? ⟨b2, 3, none⟩ = some (.slice oo2 on2 oc2) ∧ Hid (Two w W b b2 ⟨P, N, co, cn, cc, oo, on, oc, cs, os⟩ ⟨P2, N2, co2, cn2, cc2, oo2, on2, oc2, cs2, os2⟩))) (by kernel_rfl) ?_ (fun hHeld => ?_)
            · exact HS.out _ (HXT.out.keep (Below.refl _ _).drew)
            refine wpAnyH_take (i := 0) (oi := _) (v := ?_) rfl (by kernel_rfl) (by kernel_rfl) (by kernel_rfl) (fun _ _ _ h => h) (Or.inl ⟨by kernel_rfl, ?_⟩) (by assumption) ?_
            rotate_left 1
            focus (intro wq hSw; (try dsimp only at hSw); obtain ⟨s0, s1, s2, s3, s4, s5, s6, s7, s8⟩ := hSw; go_simp; (try with_reducible rfl); done)
            try simp only [List.getElem_toArray, List.getElem_cons_zero, List.getElem_cons_succ, Act.put, List.setIfInBounds_toArray, List.set_cons_zero, List.set_cons_succ]
            refine wpAnyH_ready (rs := [1]) (by kernel_rfl) (by simp) ?_
            refine AllReadyH.cons (o := _) rfl (fun K hK => ?_) AllReadyH.nil
            rw [if_pos (by kernel_rfl)]
            go_simp
            (go_at_call 15; (with_reducible refine (CI2.out _ hHeld.2.2.2.2.2.2.2.2.out.b.at_).mono ?_); rintro e z1 ⟨rfl, q⟩)
            first | refine hK.out _ _ ?_ (fun hHeld => ?_) | (go_wp2_with fail; refine hK.out _ _ ?_ (fun hHeld => ?_))
            · exact HS.out _ (hHeld.2.2.2.2.2.2.2.2.out.keep q)
            clear hK K
            try simp only [List.getElem_toArray, List.getElem_cons_zero, List.getElem_cons_succ, Act.put, List.setIfInBounds_toArray, List.set_cons_zero, List.set_cons_succ]
            refine wpAnyH_take (i := 2) (oi := _) (v := ?_) rfl (by kernel_rfl) (by kernel_rfl) (by kernel_rfl) (fun _ _ _ h => h) (Or.inl ⟨by kernel_rfl, ?_⟩) (by assumption) ?_
            rotate_left 1
            focus (intro wq hSw; (try dsimp only at hSw); obtain ⟨s0, s1, s2, s3, s4, s5, s6, s7, s8⟩ := hSw; go_simp; (try with_reducible rfl); done)
            try simp only [List.getElem_toArray, List.getElem_cons_zero, List.getElem_cons_succ, Act.put, List.setIfInBounds_toArray, List.set_cons_zero, List.set_cons_succ]
            refine wpAnyH_take (i := 3) (oi := _) (v := ?_) rfl (by kernel_rfl) (by kernel_rfl) (by kernel_rfl) (fun _ _ _ h => h) (Or.inl ⟨by kernel_rfl, ?_⟩) (by assumption) ?_
            rotate_left 1
            focus (intro wq hSw; (try dsimp only at hSw); obtain ⟨s0, s1, s2, s3, s4, s5, s6, s7, s8⟩ := hSw; go_simp; (try with_reducible rfl); done)
            try simp only [List.getElem_toArray, List.getElem_cons_zero, List.getElem_cons_succ, Act.put, List.setIfInBounds_toArray, List.set_cons_zero, List.set_cons_succ]
            refine wpAnyH_take (i := 4) (oi := _) (v := ?_) rfl (by kernel_rfl) (by kernel_rfl) (by kernel_rfl) (fun _ _ _ h => h) (Or.inl ⟨by kernel_rfl, ?_⟩) (by assumption) ?_
            rotate_left 1
            focus (intro wq hSw; (try dsimp only at hSw); obtain ⟨s0, s1, s2, s3, s4, s5, s6, s7, s8⟩ := hSw; go_simp; (try with_reducible rfl); done)
            try simp only [List.getElem_toArray, List.getElem_cons_zero, List.getElem_cons_succ, Act.put, List.setIfInBounds_toArray, List.set_cons_zero, List.set_cons_succ]
            refine wpAnyH_take (i := 5) (oi := _) (v := ?_) rfl (by kernel_rfl) (by kernel_rfl) (by kernel_rfl) (fun _ _ _ h => h) (Or.inl ⟨by kernel_rfl, ?_⟩) (by assumption) ?_
            rotate_left 1
            focus (intro wq hSw; (try dsimp only at hSw); obtain ⟨s0, s1, s2, s3, s4, s5, s6, s7, s8⟩ := hSw; go_simp; (try with_reducible rfl); done)
            try simp only [List.getElem_toArray, List.getElem_cons_zero, List.getElem_cons_succ, Act.put, List.setIfInBounds_toArray, List.set_cons_zero, List.set_cons_succ]
            refine wpAnyH_take (i := 6) (oi := _) (v := undef) rfl (by kernel_rfl) (by kernel_rfl) (by kernel_rfl) (fun _ _ _ h => h) (Or.inr ⟨by kernel_rfl, rfl⟩) (by assumption) ?_
            try simp only [List.getElem_toArray, List.getElem_cons_zero, List.getElem_cons_succ, Act.put, List.setIfInBounds_toArray, List.set_cons_zero, List.set_cons_succ]
            refine wpAnyH_take (i := 7) (oi := _) (v := undef) rfl (by kernel_rfl) (by kernel_rfl) (by kernel_rfl) (fun _ _ _ h => h) (Or.inr ⟨by kernel_rfl, rfl⟩) (by assumption) ?_
            try simp only [List.getElem_toArray, List.getElem_cons_zero, List.getElem_cons_succ, Act.put, List.setIfInBounds_toArray, List.set_cons_zero, List.set_cons_succ]
            refine wpAnyH_take (i := 8) (oi := _) (v := undef) rfl (by kernel_rfl) (by kernel_rfl) (by kernel_rfl) (fun _ _ _ h => h) (Or.inr ⟨by kernel_rfl, rfl⟩) (by assumption) ?_
            try simp only [List.getElem_toArray, List.getElem_cons_zero, List.getElem_cons_succ, Act.put, List.setIfInBounds_toArray, List.set_cons_zero, List.set_cons_succ]
            refine wpAnyH_take (i := 9) (oi := _) (v := undef) rfl (by kernel_rfl) (by kernel_rfl) (by kernel_rfl) (fun _ _ _ h => h) (Or.inr ⟨by kernel_rfl, rfl⟩) (by assumption) ?_
            try simp only [List.getElem_toArray, List.getElem_cons_zero, List.getElem_cons_succ, Act.put, List.setIfInBounds_toArray, List.set_cons_zero, List.set_cons_succ]
            refine wpAnyH_take (i := 10) (oi := _) (v := ?_) rfl (by kernel_rfl) (by kernel_rfl) (by kernel_rfl) (fun _ _ _ h => h) (Or.inl ⟨by kernel_rfl, ?_⟩) (by assumption) ?_
            rotate_left 1
            focus (intro wq hSw; (try dsimp only at hSw); obtain ⟨s0, s1, s2, s3, s4, s5, s6, s7, s8⟩ := hSw; go_simp; (try with_reducible rfl); done)
            try simp only [List.getElem_toArray, List.getElem_cons_zero, List.getElem_cons_succ, Act.put, List.setIfInBounds_toArray, List.set_cons_zero, List.set_cons_succ]
            refine wpAnyH_take (i := 11) (oi := _) (v := ?_) rfl (by kernel_rfl) (by kernel_rfl) (by kernel_rfl) (fun _ _ _ h => h) (Or.inl ⟨by kernel_rfl, ?_⟩) (by assumption) ?_
            rotate_left 1
            focus (intro wq hSw; (try dsimp only at hSw); obtain ⟨s0, s1, s2, s3, s4, s5, s6, s7, s8⟩ := hSw; go_simp; (try with_reducible rfl); done)
            try simp only [List.getElem_toArray, List.getElem_cons_zero, List.getElem_cons_succ, Act.put, List.setIfInBounds_toArray, List.set_cons_zero, List.set_cons_succ]
            refine wpAnyH_take (i := 12) (oi := _) (v := ?_) rfl (by kernel_rfl) (by kernel_rfl) (by kernel_rfl) (fun _ _ _ h => h) (Or.inl ⟨by kernel_rfl, ?_⟩) (by assumption) ?_
            rotate_left 1
            focus (intro wq hSw; (try dsimp only at hSw); obtain ⟨s0, s1, s2, s3, s4, s5, s6, s7, s8⟩ := hSw; go_simp; (try with_reducible rfl); done)
            try simp only [List.getElem_toArray, List.getElem_cons_zero, List.getElem_cons_succ, Act.put, List.setIfInBounds_toArray, List.set_cons_zero, List.set_cons_succ]
            refine wpAnyH_ready (rs := [13]) (by kernel_rfl) (by simp) ?_
            refine AllReadyH.cons (o := _) rfl (fun K hK => ?_) AllReadyH.nil
            rw [if_pos (by kernel_rfl)]
            go_simp
            (go_at_call 7; (with_reducible refine (HAW.out _).mono ?_); rintro e z5 ⟨rfl, q⟩)
            first | refine hK.out _ _ ?_ (fun hHeld => ?_) | (go_wp2_with fail; refine hK.out _ _ ?_ (fun hHeld => ?_))
            · exact HS.out _ (hHeld.2.2.2.2.2.2.2.2.out.keep q)
            clear hK K
            try simp only [List.getElem_toArray, List.getElem_cons_zero, List.getElem_cons_succ, Act.put, List.setIfInBounds_toArray, List.set_cons_zero, List.set_cons_succ]
            refine wpAnyH_take (i := 14) (oi := _) (v := ?_) rfl (by kernel_rfl) (by kernel_rfl) (by kernel_rfl) (fun _ _ _ h => h) (Or.inl ⟨by kernel_rfl, ?_⟩) (by assumption) ?_
            rotate_left 1
            focus (intro wq hSw; (try dsimp only at hSw); obtain ⟨s0, s1, s2, s3, s4, s5, s6, s7, s8⟩ := hSw; go_simp; (try with_reducible rfl); done)
            try simp only [List.getElem_toArray, List.getElem_cons_zero, List.getElem_cons_succ, Act.put, List.setIfInBounds_toArray, List.set_cons_zero, List.set_cons_succ]
            refine wpAnyH_take (i := 15) (oi := _) (v := ?_) rfl (by kernel_rfl) (by kernel_rfl) (by kernel_rfl) (fun _ _ _ h => h) (Or.inl ⟨by kernel_rfl, ?_⟩) (by assumption) ?_
            rotate_left 1
            focus (intro wq hSw; (try dsimp only at hSw); obtain ⟨s0, s1, s2, s3, s4, s5, s6, s7, s8⟩ := hSw; go_simp; (try with_reducible rfl); done)
            try simp only [List.getElem_toArray, List.getElem_cons_zero, List.getElem_cons_succ, Act.put, List.setIfInBounds_toArray, List.set_cons_zero, List.set_cons_succ]
            refine wpAnyH_done (by kernel_rfl) ?_ _
            go_wp2
            go_returns
            exact ⟨rfl, hHeld.2.2.2.2.2.2.2.2.out.a.bw⟩
          · obtain ⟨P3, N3, co3, cn3, cc3, oo3, on3, oc3, cs3, os3⟩ := GQ
            have HSB : Hid (∀ M : Fv, IsCan ⟨P, N, co, cn, cc, oo, on, oc, cs, os⟩ M → SameF ⟨P3, N3, co3, cn3, cc3, oo3, on3, oc3, cs3, os3⟩ M) := Lib.hid (fun M cm => sh_back HK.out HC.out hk2 hc2 cm HRF.out HKR.out HLC.out HLK.out HLG.out)
            have HGA3 : Hid (Fv.At ⟨P3, N3, co3, cn3, cc3, oo3, on3, oc3, cs3, os3⟩ w5) := Lib.hid hown2.at_
            obtain ⟨b3, hb3⟩ : ∃ z, w5.heap.size = z := ⟨_, rfl⟩
            obtain ⟨w6, hw6⟩ : ∃ z, w5.alloc (.cells #[.int .i64 P3, .int .i64 N3, .slice co3 cn3 cc3, .slice oo3 on3 oc3] 25) = z := ⟨_, rfl⟩
            have HXT : Hid (Three w w6 b b2 b3 ⟨P, N, co, cn, cc, oo, on, oc, cs, os⟩ ⟨P2, N2, co2, cn2, cc2, oo2, on2, oc2, cs2, os2⟩ ⟨P3, N3, co3, cn3, cc3, oo3, on3, oc3, cs3, os3⟩) := Lib.hid (by
              rw [← hw6]
              have k := (Below.refl _ w5).alloc (Nat.le_refl _) (.cells #[.int .i64 P3, .int .i64 N3, .slice co3 cn3 cc3, .slice oo3 on3 oc3] 25)
              exact ⟨HT.out.a.keep k, HT.out.b.keep k, fbox_in HGA3.out hb3 HT.out.a.bw⟩)
            have HWX := Lib.hid hw6
            have HBX := Lib.hid hb3
            clear h1 hk2 krt2 hc2 hown2 hw6 hb3 HT HGA3
            have HS : Hid (∀ W, Three w W b b2 b3 ⟨P, N, co, cn, cc, oo, on, oc, cs, os⟩ ⟨P2, N2, co2, cn2, cc2, oo2, on2, oc2, cs2, os2⟩ ⟨P3, N3, co3, cn3, cc3, oo3, on3, oc3, cs3, os3⟩ → W.cell? ⟨b, 0, none⟩ = some (.int .i64 P) ∧ W.cell? ⟨b, 1, none⟩ = some (.int .i64 N) ∧ W.cell? ⟨b, 2, none⟩ = some (.slice co cn cc) ∧ W.cell? ⟨b, 3, none⟩ = some (.slice oo on oc) ∧ W.cell? ⟨b2, 0, none⟩ = some (.int .i64 P2) ∧ W.cell? ⟨b2, 1, none⟩ = some (.int .i64 N2) ∧ W.cell? ⟨b2, 2, none⟩ = some (.slice co2 cn2 cc2) ∧ W.cell? ⟨b2, 3, none⟩ = some (.slice oo2 on2 oc2) ∧ W.cell? ⟨b3, 0, none⟩ = some (.int .i64 P3) ∧ W.cell? ⟨b3, 1, none⟩ = some (.int .i64 N3) ∧ W.cell? ⟨b3, 2, none⟩ = some (.slice co3 cn3 cc3) ∧ W.cell? ⟨b3, 3, none⟩ = some (.slice oo3 on3 oc3) ∧ Hid (Three w W b b2 b3 ⟨P, N, co, cn, cc, oo, on, oc, cs, os⟩ ⟨P2, N2, co2, cn2, cc2, oo2, on2, oc2, cs2, os2⟩ ⟨P3, N3, co3, cn3, cc3, oo3, on3, oc3, cs3, os3⟩)) := Lib.hid (fun W h => ⟨h.a.c0, h.a.c1, h.a.c2, h.a.c3, h.b.c0, h.b.c1, h.b.c2, h.b.c3, h.c.c0, h.c.c1, h.c.c2, h.c.c3, Lib.hid h⟩)
            go_upto_region 16 with fail
            try rw [HWX.out]
            try rw [HBX.out]
            clear HWX HBX
            refine wp_region_held_drew (S := (fun W => W.cell? ⟨b, 0, none⟩ = some (.int .i64 P) ∧ W.cell? ⟨b, 1, none⟩ = some (.int .i64 N) ∧ W.cell? ⟨b, 2, none⟩ = some (.slice co cn cc) ∧ W.cell? ⟨b, 3, none⟩ = some (.slice oo on oc) ∧ W.cell? ⟨b2, 0, none⟩ = some (.int .i64 P2) ∧ W.cell? ⟨b2, 1, none⟩ = some (.int .i64 N2) ∧ W.cell? ⟨b2, 2, none⟩ = some (.slice co2 cn2 cc2) ∧ W.cell? ⟨b2, 3, none⟩ = some (.slice oo2 on2 oc2) ∧ W.cell? ⟨b3, 0, none⟩ = some (.int .i64 P3) ∧ W.cell? ⟨b3, 1, none⟩ = some (.int .i64 N3) ∧ W.cell? ⟨b3, 2, none⟩ = some (.slice co3 cn3 cc3) ∧ W.cell? ⟨b3, 3, none⟩ = some (.slice oo3 on3 oc3) ∧ Hid (Three w W b b2 b3 ⟨P, N, co, cn, cc, oo, on, oc, cs, os⟩ ⟨P2, N2, co2, cn2, cc2, oo2, on2, oc2, cs2, os2⟩ ⟨P3, N3, co3, cn3, cc3, oo3, on3, oc3, cs3, os3⟩))) (by kernel_rfl) ?_ (fun hHeld => ?_)
            · exact HS.out _ (HXT.out.keep (Below.refl _ _).drew)
            refine wpAnyH_take (i := 0) (oi := _) (v := ?_) rfl (by kernel_rfl) (by kernel_rfl) (by kernel_rfl) (fun _ _ _ h => h) (Or.inl ⟨by kernel_rfl, ?_⟩) (by assumption) ?_
            rotate_left 1
            focus (intro wq hSw; (try dsimp only at hSw); obtain ⟨s0, s1, s2, s3, s4, s5, s6, s7, s8, s9, s10, s11, s12⟩ := hSw; go_simp; (try with_reducible rfl); done)
            try simp only [List.getElem_toArray, List.getElem_cons_zero, List.getElem_cons_succ, Act.put, List.setIfInBounds_toArray, List.set_cons_zero, List.set_cons_succ]
            refine wpAnyH_ready (rs := [1]) (by kernel_rfl) (by simp) ?_
            refine AllReadyH.cons (o := _) rfl (fun K hK => ?_) AllReadyH.nil
            rw [if_pos (by kernel_rfl)]
            go_simp
            (go_at_call 15; (with_reducible refine (CI2.out _ hHeld.2.2.2.2.2.2.2.2.2.2.2.2.out.b.at_).mono ?_); rintro e z1 ⟨rfl, q⟩)
            first | refine hK.out _ _ ?_ (fun hHeld => ?_) | (go_wp2_with fail; refine hK.out _ _ ?_ (fun hHeld => ?_))
            · exact HS.out _ (hHeld.2.2.2.2.2.2.2.2.2.2.2.2.out.keep q)
            clear hK K
            try simp only [List.getElem_toArray, List.getElem_cons_zero, List.getElem_cons_succ, Act.put, List.setIfInBounds_toArray, List.set_cons_zero, List.set_cons_succ]
            refine wpAnyH_take (i := 2) (oi := _) (v := ?_) rfl (by kernel_rfl) (by kernel_rfl) (by kernel_rfl) (fun _ _ _ h => h) (Or.inl ⟨by kernel_rfl, ?_⟩) (by assumption) ?_
            rotate_left 1
            focus (intro wq hSw; (try dsimp only at hSw); obtain ⟨s0, s1, s2, s3, s4, s5, s6, s7, s8, s9, s10, s11, s12⟩ := hSw; go_simp; (try with_reducible rfl); done)
            try simp only [List.getElem_toArray, List.getElem_cons_zero, List.getElem_cons_succ, Act.put, List.setIfInBounds_toArray, List.set_cons_zero, List.set_cons_succ]
            refine wpAnyH_take (i := 3) (oi := _) (v := ?_) rfl (by kernel_rfl) (by kernel_rfl) (by kernel_rfl) (fun _ _ _ h => h) (Or.inl ⟨by kernel_rfl, ?_⟩) (by assumption) ?_
            rotate_left 1
            focus (intro wq hSw; (try dsimp only at hSw); obtain ⟨s0, s1, s2, s3, s4, s5, s6, s7, s8, s9, s10, s11, s12⟩ := hSw; go_simp; (try with_reducible rfl); done)
            try simp only [List.getElem_toArray, List.getElem_cons_zero, List.getElem_cons_succ, Act.put, List.setIfInBounds_toArray, List.set_cons_zero, List.set_cons_succ]
            refine wpAnyH_take (i := 4) (oi := _) (v := ?_) rfl (by kernel_rfl) (by kernel_rfl) (by kernel_rfl) (fun _ _ _ h => h) (Or.inl ⟨by kernel_rfl, ?_⟩) (by assumption) ?_
            rotate_left 1
            focus (intro wq hSw; (try dsimp only at hSw); obtain ⟨s0, s1, s2, s3, s4, s5, s6, s7, s8, s9, s10, s11, s12⟩ := hSw; go_simp; (try with_reducible rfl); done)
            try simp only [List.getElem_toArray, List.getElem_cons_zero, List.getElem_cons_succ, Act.put, List.setIfInBounds_toArray, List.set_cons_zero, List.set_cons_succ]
            refine wpAnyH_take (i := 5) (oi := _) (v := ?_) rfl (by kernel_rfl) (by kernel_rfl) (by kernel_rfl) (fun _ _ _ h => h) (Or.inl ⟨by kernel_rfl, ?_⟩) (by assumption) ?_
            rotate_left 1
            focus (intro wq hSw; (try dsimp only at hSw); obtain ⟨s0, s1, s2, s3, s4, s5, s6, s7, s8, s9, s10, s11, s12⟩ := hSw; go_simp; (try with_reducible rfl); done)
            try simp only [List.getElem_toArray, List.getElem_cons_zero, List.getElem_cons_succ, Act.put, List.setIfInBounds_toArray, List.set_cons_zero, List.set_cons_succ]
            refine wpAnyH_take (i := 6) (oi := _) (v := ?_) rfl (by kernel_rfl) (by kernel_rfl) (by kernel_rfl) (fun _ _ _ h => h) (Or.inl ⟨by kernel_rfl, ?_⟩) (by assumption) ?_
            rotate_left 1
            focus (intro wq hSw; (try dsimp only at hSw); obtain ⟨s0, s1, s2, s3, s4, s5, s6, s7, s8, s9, s10, s11, s12⟩ := hSw; go_simp; (try with_reducible rfl); done)
            try simp only [List.getElem_toArray, List.getElem_cons_zero, List.getElem_cons_succ, Act.put, List.setIfInBounds_toArray, List.set_cons_zero, List.set_cons_succ]
            refine wpAnyH_take (i := 7) (oi := _) (v := ?_) rfl (by kernel_rfl) (by kernel_rfl) (by kernel_rfl) (fun _ _ _ h => h) (Or.inl ⟨by kernel_rfl, ?_⟩) (by assumption) ?_
            rotate_left 1
            focus (intro wq hSw; (try dsimp only at hSw); obtain ⟨s0, s1, s2, s3, s4, s5, s6, s7, s8, s9, s10, s11, s12⟩ := hSw; go_simp; (try with_reducible rfl); done)
            try simp only [List.getElem_toArray, List.getElem_cons_zero, List.getElem_cons_succ, Act.put, List.setIfInBounds_toArray, List.set_cons_zero, List.set_cons_succ]
            refine wpAnyH_ready (rs := [8]) (by kernel_rfl) (by simp) ?_
            refine AllReadyH.cons (o := _) rfl (fun K hK => ?_) AllReadyH.nil
            rw [if_pos (by kernel_rfl)]
            go_simp
            (go_at_call 16; (with_reducible refine (D1.out _ hHeld.2.2.2.2.2.2.2.2.2.2.2.2.out.a.at_).mono ?_); rintro e z2 ⟨p4, n4, c4, l4, k4, o4, m4, j4, g4, s4, rfl, HA, q⟩)
            first | refine hK.out _ _ ?_ (fun hHeld => ?_) | (go_wp2_with fail; refine hK.out _ _ ?_ (fun hHeld => ?_))
            · exact HS.out _ (hHeld.2.2.2.2.2.2.2.2.2.2.2.2.out.keep q)
            clear hK K
            try simp only [List.getElem_toArray, List.getElem_cons_zero, List.getElem_cons_succ, Act.put, List.setIfInBounds_toArray, List.set_cons_zero, List.set_cons_succ]
            refine wpAnyH_ready (rs := [9]) (by kernel_rfl) (by simp) ?_
            refine AllReadyH.cons (o := _) rfl (fun K hK => ?_) AllReadyH.nil
            rw [if_pos (by kernel_rfl)]
            go_simp
            (go_at_call 9; (with_reducible refine (alikeForms_any ⟨P3, N3, co3, cn3, cc3, oo3, on3, oc3, cs3, os3⟩ ⟨p4, n4, c4, l4, k4, o4, m4, j4, g4, s4⟩ _ hHeld.2.2.2.2.2.2.2.2.2.2.2.2.out.c.at_ HA.out.2 true ⟨fun _ => HSB.out _ HA.out.1, fun _ => rfl⟩).mono ?_); rintro e z4 ⟨rfl, q⟩)
            first | refine hK.out _ _ ?_ (fun hHeld => ?_) | (go_wp2_with fail; refine hK.out _ _ ?_ (fun hHeld => ?_))
            · exact HS.out _ (hHeld.2.2.2.2.2.2.2.2.2.2.2.2.out.keep q)
            clear hK K
            try simp only [List.getElem_toArray, List.getElem_cons_zero, List.getElem_cons_succ, Act.put, List.setIfInBounds_toArray, List.set_cons_zero, List.set_cons_succ]
            refine wpAnyH_take (i := 10) (oi := _) (v := ?_) rfl (by kernel_rfl) (by kernel_rfl) (by kernel_rfl) (fun _ _ _ h => h) (Or.inl ⟨by kernel_rfl, ?_⟩) (by assumption) ?_
            rotate_left 1
            focus (intro wq hSw; (try dsimp only at hSw); obtain ⟨s0, s1, s2, s3, s4, s5, s6, s7, s8, s9, s10, s11, s12⟩ := hSw; go_simp; (try with_reducible rfl); done)
            try simp only [List.getElem_toArray, List.getElem_cons_zero, List.getElem_cons_succ, Act.put, List.setIfInBounds_toArray, List.set_cons_zero, List.set_cons_succ]
            refine wpAnyH_take (i := 11) (oi := _) (v := ?_) rfl (by kernel_rfl) (by kernel_rfl) (by kernel_rfl) (fun _ _ _ h => h) (Or.inl ⟨by kernel_rfl, ?_⟩) (by assumption) ?_
            rotate_left 1
            focus (intro wq hSw; (try dsimp only at hSw); obtain ⟨s0, s1, s2, s3, s4, s5, s6, s7, s8, s9, s10, s11, s12⟩ := hSw; go_simp; (try with_reducible rfl); done)
            try simp only [List.getElem_toArray, List.getElem_cons_zero, List.getElem_cons_succ, Act.put, List.setIfInBounds_toArray, List.set_cons_zero, List.set_cons_succ]
            refine wpAnyH_take (i := 12) (oi := _) (v := ?_) rfl (by kernel_rfl) (by kernel_rfl) (by kernel_rfl) (fun _ _ _ h => h) (Or.inl ⟨by kernel_rfl, ?_⟩) (by assumption) ?_
            rotate_left 1
            focus (intro wq hSw; (try dsimp only at hSw); obtain ⟨s0, s1, s2, s3, s4, s5, s6, s7, s8, s9, s10, s11, s12⟩ := hSw; go_simp; (try with_reducible rfl); done)
            try simp only [List.getElem_toArray, List.getElem_cons_zero, List.getElem_cons_succ, Act.put, List.setIfInBounds_toArray, List.set_cons_zero, List.set_cons_succ]
            refine wpAnyH_ready (rs := [13]) (by kernel_rfl) (by simp) ?_
            refine AllReadyH.cons (o := _) rfl (fun K hK => ?_) AllReadyH.nil
            rw [if_pos (by kernel_rfl)]
            go_simp
            (go_at_call 7; (with_reducible refine (HAW.out _).mono ?_); rintro e z5 ⟨rfl, q⟩)
            first | refine hK.out _ _ ?_ (fun hHeld => ?_) | (go_wp2_with fail; refine hK.out _ _ ?_ (fun hHeld => ?_))
            · exact HS.out _ (hHeld.2.2.2.2.2.2.2.2.2.2.2.2.out.keep q)
            clear hK K
            try simp only [List.getElem_toArray, List.getElem_cons_zero, List.getElem_cons_succ, Act.put, List.setIfInBounds_toArray, List.set_cons_zero, List.set_cons_succ]
            refine wpAnyH_take (i := 14) (oi := _) (v := ?_) rfl (by kernel_rfl) (by kernel_rfl) (by kernel_rfl) (fun _ _ _ h => h) (Or.inl ⟨by kernel_rfl, ?_⟩) (by assumption) ?_
            rotate_left 1
            focus (intro wq hSw; (try dsimp only at hSw); obtain ⟨s0, s1, s2, s3, s4, s5, s6, s7, s8, s9, s10, s11, s12⟩ := hSw; go_simp; (try with_reducible rfl); done)
            try simp only [List.getElem_toArray, List.getElem_cons_zero, List.getElem_cons_succ, Act.put, List.setIfInBounds_toArray, List.set_cons_zero, List.set_cons_succ]
            refine wpAnyH_take (i := 15) (oi := _) (v := ?_) rfl (by kernel_rfl) (by kernel_rfl) (by kernel_rfl) (fun _ _ _ h => h) (Or.inl ⟨by kernel_rfl, ?_⟩) (by assumption) ?_
            rotate_left 1
            focus (intro wq hSw; (try dsimp only at hSw); obtain ⟨s0, s1, s2, s3, s4, s5, s6, s7, s8, s9, s10, s11, s12⟩ := hSw; go_simp; (try with_reducible rfl); done)
            try simp only [List.getElem_toArray, List.getElem_cons_zero, List.getElem_cons_succ, Act.put, List.setIfInBounds_toArray, List.set_cons_zero, List.set_cons_succ]
            refine wpAnyH_done (by kernel_rfl) ?_ _
            go_wp2
            go_returns
            exact ⟨rfl, hHeld.2.2.2.2.2.2.2.2.2.2.2.2.out.a.bw⟩
end Go.Proofs.Ytmjapbjjfhmohaa
