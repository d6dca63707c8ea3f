/- G13d, G14c in one. -/
import Derived.Test.YtmjapbjjfhmohaaKd
import Derived.Test.YtmjapbjjfhmohaaKe
namespace Go.Proofs.Ytmjapbjjfhmohaa
set_option linter.unusedVariables false
set_option linter.unusedSimpArgs false
open Go.ChangeShapes Go.WideShapes Go.ChangeAt Go.RowKit
set_option maxHeartbeats 4000000 in
theorem listed_dn (F : Fv) (w0 w : World) (B b : Nat) (a ps : Int) (v : Value) (L : List Nat) (s : Nat) (hk : Wk F w0 w B b a (-1 : Int) ps v L) (hv : Ready F v L) (hr : F.Rep) (hc : F.cn ≤ 1000000) (ha1 : -2305843009213693952 ≤ a) (ha2 : a ≤ 2305843009213693952) (hs : a.fmod F.N = s) (hp0 : 0 ≤ ps) (hp : ps ≤ 2 * F.cn) :
    Calls Try.prog 90 #[.pointer (some ⟨b, 0, none⟩), .int .i64 s] w fun e w' => WkOut F w0 w B b a (-1 : Int) e w' := by
  have q60 : ∀ (w : World) (a : Option Addr) (n c n' c' : Nat), (binOp .eql 33 (.slice a n c) (.slice none n' c')).run Try.prog w = .ok (.bool a.isNone) w := fun w a n c n' c' => Lib.run_eql_slice_nil w _ _ a n c n' c' Try.underlying33
  obtain ⟨P, N, co, cn, cc, oo, on, oc, cs, os⟩ := F
  obtain ⟨r1, r2⟩ := hr
  have r1 : 0 < N := r1
  obtain rfl : N = (cn : Int) := r2
  have HL : Hid (cs.length = cn) := Lib.hid hk.f.core.len
  have hc : cn ≤ 1000000 := hc
  have HK := Lib.hid hk
  have HV := Lib.hid hv
  have HS := Lib.hid hs
  have HP : Hid (0 ≤ ps ∧ ps ≤ 2 * (cn : Int)) := Lib.hid ⟨hp0, hp⟩
  have hmc : cn ≤ 9223372036854775807 := by omega
  clear hk hv hs hp0 hp
  have s1 : s < cn := by have := fmod_nat a r1; have h2 := HS.out; simp only at h2; omega
  obtain ⟨ao, n, c, rfl, HI⟩ : ∃ ao n c, v = .slice ao n c ∧ Hid (n = L.length ∧ InAt w ao n c L) := by
    obtain ⟨ao, c, h1, h2⟩ := own_in HK.out.own
    exact ⟨ao, _, c, h1, Lib.hid ⟨rfl, h2⟩⟩
  have HC := Lib.hid (fun k => HK.out.cell k)
  have c0 : w.cell? ⟨b, 0, none⟩ = some (.int .i64 P) := HC.out 0
  have c1 : w.cell? ⟨b, 1, none⟩ = some (.int .i64 cn) := HC.out 1
  have c2 : w.cell? ⟨b, 2, none⟩ = some (.slice co cn cc) := HC.out 2
  have c4 : w.cell? ⟨b, 4, none⟩ = some (.int .i64 a) := HC.out 4
  have c5 : w.cell? ⟨b, 5, none⟩ = some (.int .i64 (-1)) := HC.out 5
  have c7 : w.cell? ⟨b, 7, none⟩ = some (.slice ao n c) := HC.out 7
  have f4 := HK.out.free 4
  go_enter Try.func90, Try.ntmps90
  cases ao with
  | none =>
    have HN : Hid (n = 0 ∧ c = 0) := Lib.hid (HI.out.2.bare rfl)
    obtain ⟨rfl, rfl⟩ := HN.out
    have HK0 : Hid (∃ v2, Wk ⟨P, (cn : Int), co, cn, cc, oo, on, oc, cs, os⟩ w0 w w.heap.size b a (-1 : Int) ps v2 (fulls 0 (cs.take 0)) ∧ w.grownBy w (some b)) := Lib.hid ⟨.slice none 0 0, ⟨HK.out.f, HK.out.bw, HK.out.lo, Nat.lt_of_lt_of_le HK.out.hi HK.out.sz, Nat.le_refl _, HK.out.blk, World.ownsRow_nil _ _ _ _⟩, World.grownBy.refl w _⟩
    have HB := Lib.hid (And.intro HK.out.hi HK.out.sz)
    clear HV HC HI HN
    go_wp2
    clear HK
    go_loopw [21] (fun ii wr => ∃ i : Nat, i ≤ cn ∧ ii = .int .i64 i ∧ Hid (∃ v2, Wk ⟨P, (cn : Int), co, cn, cc, oo, on, oc, cs, os⟩ w0 wr w.heap.size b a (-1 : Int) ps v2 (fulls 0 (cs.take i)) ∧ w.grownBy wr (some b))) (fun ii _ => cn - (intOf ii).toNat)
    case atStart => exact ⟨0, Nat.zero_le _, rfl, HK0⟩
    case round =>
      obtain ⟨i, hi, rfl, HW⟩ := hrel
      obtain ⟨v2, hw, hg⟩ := HW.out
      have HWK := Lib.hid hw
      have HG := Lib.hid hg
      clear hw hg
      clear HW
      by_cases ilt : i < cn
      · have HO := Lib.hid HWK.out.own
        have HCW := Lib.hid (HWK.out.at0.core)
        obtain ⟨g, p, e, hc⟩ := (show CoAt wr co cn cc cs from HCW.out).here (by omega)
        cases e
        have hil : i < cs.length := by rw [HL.out]; exact ilt
        obtain ⟨o, m, d, d1, d2⟩ := hc i hil
        have HT := Lib.hid (fulls_take hil)
        have HM := Lib.hid d2.len
        have i0 : (0 : Int) ≤ (i : Int) := by omega
        have i1 : (i : Int) < (cn : Int) := by omega
        by_cases hm : m = 0
        · have HT2 : Hid (fulls 0 (cs.take (i + 1)) = fulls 0 (cs.take i)) := Lib.hid (by
            rw [HT.out, if_neg (fun q => q (List.eq_nil_of_length_eq_zero (by rw [HM.out]; exact hm))), List.append_nil])
          have m0 : ¬ (0 : Int) < (m : Int) := by omega
          clear hc d2 HT HM HCW
          clear hil
          go_wp2
          go_roundw
          case rel => exact ⟨i + 1, by omega, by go_num, Lib.hid ⟨v2, by rw [HT2.out]; exact HWK.out, HG.out⟩⟩
          case measure => simp [intOf]; omega
        · have HT2 : Hid (fulls 0 (cs.take (i + 1)) = fulls 0 (cs.take i) ++ [i]) := Lib.hid (by
            rw [HT.out, if_pos (fun q => hm (by rw [← HM.out, q]; rfl))])
          have m0 : (0 : Int) < (m : Int) := by omega
          have HLN : Hid ((fulls 0 (cs.take i)).length ≤ 1000000) := Lib.hid (by
            have h1 := fulls_len 0 (cs.take i); have h2 := List.length_take_le i cs; omega)
          have w7 : wr.cell? ⟨b, 7, none⟩ = some v2 := HWK.out.cell 7
          have HSZ := Lib.hid HWK.out.sz
          clear hc d2 HT HM HCW
          clear hil
          go_wp2_with (at_builtin; refine appI rfl _ _ rfl w.heap.size v2 (fulls 0 (cs.take i)) (by rfl) HO.out i _ wr.heap.size rfl (by rfl) HLN.out HSZ.out ?_; intro v3 w3 ho3 hg3; have ho4 : w3.ownsRow w.heap.size 3 1 v3 (fulls 0 (cs.take i) ++ [i]).length (natC (fulls 0 (cs.take i) ++ [i])) := (by rw [List.length_append]; exact ho3); obtain ⟨ao3, c3, hv3, hin3⟩ := own_in ho4; obtain ⟨n3, hn3⟩ : ∃ q, (fulls 0 (cs.take i) ++ [i]).length = q := ⟨_, rfl⟩; rw [hn3] at hv3; subst hv3; have HA := Lib.hid (Wk.app HWK.out hg3 ho4); have HGG := Lib.hid (grown_app (v3 := .slice ao3 n3 c3) HG.out HO.out hg3); have w37 := (blk_cell HA.out.1).1; have f37 := (blk_cell HA.out.1).2; clear ho3 ho4 hg3 hin3 w7 hn3)
          rw [← HT2.out] at HA
          go_roundw
          case rel => exact ⟨i + 1, by omega, by go_num, Lib.hid ⟨_, HA.out.2, HGG.out⟩⟩
          case measure => simp [intOf]; omega
      · obtain rfl : cn = i := by omega
        have HT : Hid (fulls 0 (cs.take cn) = fulls 0 cs) := Lib.hid (by rw [List.take_of_length_le (by rw [HL.out]; exact Nat.le_refl _)])
        rw [HT.out] at HWK
        clear HT
        obtain ⟨ao, n, c, rfl, HI⟩ : ∃ ao n c, v2 = .slice ao n c ∧ Hid (n = (fulls 0 cs).length ∧ InAt wr ao n c (fulls 0 cs)) := by
          obtain ⟨ao, c, h1, h2⟩ := own_in HWK.out.own
          exact ⟨ao, _, c, h1, Lib.hid ⟨rfl, h2⟩⟩
        have HK := Lib.hid (HWK.out.base HB.out.1 HB.out.2)
        have HC := Lib.hid (fun k => HK.out.cell k)
        clear HWK HB HK0 c0 c1 c2 c4 c5 c7 f4
        have c0 : wr.cell? ⟨b, 0, none⟩ = some (.int .i64 P) := HC.out 0
        have c1 : wr.cell? ⟨b, 1, none⟩ = some (.int .i64 cn) := HC.out 1
        have c2 : wr.cell? ⟨b, 2, none⟩ = some (.slice co cn cc) := HC.out 2
        have c4 : wr.cell? ⟨b, 4, none⟩ = some (.int .i64 a) := HC.out 4
        have c5 : wr.cell? ⟨b, 5, none⟩ = some (.int .i64 (-1)) := HC.out 5
        have c7 : wr.cell? ⟨b, 7, none⟩ = some (.slice ao n c) := HC.out 7
        have f4 := HK.out.free 4
        clear HC
        have HBS := Lib.hid (bs_any (ao) n c (fulls 0 cs) s wr HI.out.2 (fulls_inc 0 cs) (by have := fulls_len 0 cs; have h2 := HI.out.1; have := HL.out; omega))
        go_wp2_with fail
        (with_reducible refine HBS.out.mono ?_)
        rintro e w9 ⟨⟨i, f, hin, rfl, HN, HF⟩, hw9⟩
        obtain rfl := hw9.out
        clear hw9 HBS
        have nb : n ≤ 1000000 := by have := fulls_len 0 cs; have h2 := HI.out.1; have := HL.out; omega
        by_cases h0 : n = 0
        · obtain rfl : n = 0 := h0
          have t0 : (((0 : Nat) : Int) == 0) = true := rfl
          have HE : Hid (∀ i, cg cs P cn i = []) := Lib.hid (fun i => (cg_nil r1 (by rw [HL.out])).2 (none_full r1 (by rw [HL.out]) (List.eq_nil_of_length_eq_zero HI.out.1.symm) i))
          obtain rfl : i = 0 := by omega
          go_wp2
          go_returns
          exact ⟨a, ps, _, _, HK.out, .inr rfl, .inr ⟨rfl, rfl, HE.out⟩, HP.out.1, HP.out.2, HG.out⟩
        · have t0 : ((n : Int) == 0) = false := by simp; omega
          by_cases h1 : i = 0
          · subst h1
            obtain ⟨k, hk⟩ : ∃ k, n - 1 = k := ⟨_, rfl⟩
            have hk2 : k = (fulls 0 cs).length - 1 := by rw [← HI.out.1]; omega
            have t2 : (n : Int) - 1 = (k : Int) := by omega
            have k0 : (0 : Int) ≤ (k : Int) := by omega
            have k1 : (k : Int) < (n : Int) := by omega
            obtain ⟨g, p, e, hcell⟩ := HI.out.2.here (by omega)
            cases e
            have hidx : k < (fulls 0 cs).length := by have := HI.out.1; omega
            have d0 := hcell (k) hidx
            have HX : Hid (Nxt cs cn a (-1 : Int) (a + (((fulls 0 cs)[k]'hidx : Nat) - cn - s))) := Lib.hid (by subst hk2; exact (nxt_dn r1 (by rw [HL.out]) HS.out HN.out (fun h => by have := HI.out.1; rw [h] at this; exact h0 this)).2 rfl hidx)
            have HZ : Hid ((fulls 0 cs)[k]'hidx < cn) := Lib.hid (by
              obtain ⟨k, hk, e2, _⟩ := mem_fulls.1 (List.getElem_mem hidx); have := HL.out; omega)
            obtain ⟨z, hz⟩ : ∃ z, (fulls 0 cs)[k]'hidx = z := ⟨_, rfl⟩
            rw [hz] at d0 HX HZ
            clear hz hcell
            clear hidx
            clear hk hk2
            have z1 := HZ.out
            try simp only [Nat.add_zero] at d0
            go_wp2
            go_region
            go_wp2
            go_returns
            exact ⟨a + (z - cn - s), ps, _, _, (HK.out.put 4 (.int .i64 (a + (z - cn - s))) rfl HK.out.own).keep (Below.refl _ _).drew, .inr rfl, .inl ⟨_, rfl, rfl, HX.out, r1, rfl⟩, HP.out.1, HP.out.2, grown_put HG.out 4 _⟩
          · obtain ⟨m, hm⟩ : ∃ m, i = m + 1 := ⟨i - 1, by omega⟩
            have t2 : (i : Int) - 1 = (m : Int) := by omega
            have k0 : (0 : Int) ≤ (m : Int) := by omega
            have k1 : (m : Int) < (n : Int) := by omega
            have t1 : (((m : Nat) : Int) == (n : Int)) = false := by simp; omega
            obtain ⟨g, p, e, hcell⟩ := HI.out.2.here (by omega)
            cases e
            have hidx : m < (fulls 0 cs).length := by have := HI.out.1; omega
            have d0 := hcell (m) hidx
            have HX : Hid (Nxt cs cn a (-1 : Int) (a + (((fulls 0 cs)[m]'hidx : Nat) - s))) := Lib.hid ((nxt_dn r1 (by rw [HL.out]) HS.out HN.out (fun h => by have := HI.out.1; rw [h] at this; exact h0 this)).1 m hm hidx)
            have HZ : Hid ((fulls 0 cs)[m]'hidx < cn) := Lib.hid (by
              obtain ⟨k, hk, e2, _⟩ := mem_fulls.1 (List.getElem_mem hidx); have := HL.out; omega)
            obtain ⟨z, hz⟩ : ∃ z, (fulls 0 cs)[m]'hidx = z := ⟨_, rfl⟩
            rw [hz] at d0 HX HZ
            clear hz hcell
            clear hidx
            clear hm
            have z1 := HZ.out
            try simp only [Nat.add_zero] at d0
            go_wp2
            go_region
            go_wp2
            go_returns
            exact ⟨a + (z - s), ps, _, _, (HK.out.put 4 (.int .i64 (a + (z - s))) rfl HK.out.own).keep (Below.refl _ _).drew, .inr rfl, .inl ⟨_, rfl, rfl, HX.out, r1, rfl⟩, HP.out.1, HP.out.2, grown_put HG.out 4 _⟩
  | some ad =>
    have HLF : Hid (L = fulls 0 cs) := Lib.hid (by rcases HV.out with h | h; · cases h
                                                   · exact h)
    have HG : Hid (w.grownBy w (some b)) := Lib.hid (World.grownBy.refl w _)
    obtain rfl := HLF.out
    clear HV HC HLF
    have HBS := Lib.hid (bs_any (some ad) n c (fulls 0 cs) s w HI.out.2 (fulls_inc 0 cs) (by have := fulls_len 0 cs; have h2 := HI.out.1; have := HL.out; omega))
    go_wp2_with fail
    (with_reducible refine HBS.out.mono ?_)
    rintro e w9 ⟨⟨i, f, hin, rfl, HN, HF⟩, hw9⟩
    obtain rfl := hw9.out
    clear hw9 HBS
    have nb : n ≤ 1000000 := by have := fulls_len 0 cs; have h2 := HI.out.1; have := HL.out; omega
    by_cases h0 : n = 0
    · obtain rfl : n = 0 := h0
      have t0 : (((0 : Nat) : Int) == 0) = true := rfl
      have HE : Hid (∀ i, cg cs P cn i = []) := Lib.hid (fun i => (cg_nil r1 (by rw [HL.out])).2 (none_full r1 (by rw [HL.out]) (List.eq_nil_of_length_eq_zero HI.out.1.symm) i))
      obtain rfl : i = 0 := by omega
      go_wp2
      go_returns
      exact ⟨a, ps, _, _, HK.out, .inr rfl, .inr ⟨rfl, rfl, HE.out⟩, HP.out.1, HP.out.2, HG.out⟩
    · have t0 : ((n : Int) == 0) = false := by simp; omega
      by_cases h1 : i = 0
      · subst h1
        obtain ⟨k, hk⟩ : ∃ k, n - 1 = k := ⟨_, rfl⟩
        have hk2 : k = (fulls 0 cs).length - 1 := by rw [← HI.out.1]; omega
        have t2 : (n : Int) - 1 = (k : Int) := by omega
        have k0 : (0 : Int) ≤ (k : Int) := by omega
        have k1 : (k : Int) < (n : Int) := by omega
        obtain ⟨g, p, e, hcell⟩ := HI.out.2.here (by omega)
        cases e
        have hidx : k < (fulls 0 cs).length := by have := HI.out.1; omega
        have d0 := hcell (k) hidx
        have HX : Hid (Nxt cs cn a (-1 : Int) (a + (((fulls 0 cs)[k]'hidx : Nat) - cn - s))) := Lib.hid (by subst hk2; exact (nxt_dn r1 (by rw [HL.out]) HS.out HN.out (fun h => by have := HI.out.1; rw [h] at this; exact h0 this)).2 rfl hidx)
        have HZ : Hid ((fulls 0 cs)[k]'hidx < cn) := Lib.hid (by
          obtain ⟨k, hk, e2, _⟩ := mem_fulls.1 (List.getElem_mem hidx); have := HL.out; omega)
        obtain ⟨z, hz⟩ : ∃ z, (fulls 0 cs)[k]'hidx = z := ⟨_, rfl⟩
        rw [hz] at d0 HX HZ
        clear hz hcell
        clear hidx
        clear hk hk2
        have z1 := HZ.out
        try simp only [Nat.add_zero] at d0
        go_wp2
        go_region
        go_wp2
        go_returns
        exact ⟨a + (z - cn - s), ps, _, _, (HK.out.put 4 (.int .i64 (a + (z - cn - s))) rfl HK.out.own).keep (Below.refl _ _).drew, .inr rfl, .inl ⟨_, rfl, rfl, HX.out, r1, rfl⟩, HP.out.1, HP.out.2, grown_put HG.out 4 _⟩
      · obtain ⟨m, hm⟩ : ∃ m, i = m + 1 := ⟨i - 1, by omega⟩
        have t2 : (i : Int) - 1 = (m : Int) := by omega
        have k0 : (0 : Int) ≤ (m : Int) := by omega
        have k1 : (m : Int) < (n : Int) := by omega
        have t1 : (((m : Nat) : Int) == (n : Int)) = false := by simp; omega
        obtain ⟨g, p, e, hcell⟩ := HI.out.2.here (by omega)
        cases e
        have hidx : m < (fulls 0 cs).length := by have := HI.out.1; omega
        have d0 := hcell (m) hidx
        have HX : Hid (Nxt cs cn a (-1 : Int) (a + (((fulls 0 cs)[m]'hidx : Nat) - s))) := Lib.hid ((nxt_dn r1 (by rw [HL.out]) HS.out HN.out (fun h => by have := HI.out.1; rw [h] at this; exact h0 this)).1 m hm hidx)
        have HZ : Hid ((fulls 0 cs)[m]'hidx < cn) := Lib.hid (by
          obtain ⟨k, hk, e2, _⟩ := mem_fulls.1 (List.getElem_mem hidx); have := HL.out; omega)
        obtain ⟨z, hz⟩ : ∃ z, (fulls 0 cs)[m]'hidx = z := ⟨_, rfl⟩
        rw [hz] at d0 HX HZ
        clear hz hcell
        clear hidx
        clear hm
        have z1 := HZ.out
        try simp only [Nat.add_zero] at d0
        go_wp2
        go_region
        go_wp2
        go_returns
        exact ⟨a + (z - s), ps, _, _, (HK.out.put 4 (.int .i64 (a + (z - s))) rfl HK.out.own).keep (Below.refl _ _).drew, .inr rfl, .inl ⟨_, rfl, rfl, HX.out, r1, rfl⟩, HP.out.1, HP.out.2, grown_put HG.out 4 _⟩
theorem WkOut.after {F : Fv} {w0 w w1 w2 : World} {B b : Nat} {a st : Int} {e : Ending} (h : WkOut F w0 w1 B b a st e w2) (hg : w.grownBy w1 (some b)) : WkOut F w0 w B b a st e w2 := by
  obtain ⟨a2, ps2, v2, L2, h1, h2, h3, h4, h5, h6⟩ := h
  exact ⟨a2, ps2, v2, L2, h1, h2, h3, h4, h5, hg.trans h6⟩
theorem grown_put0 {w w' : World} {b : Nat} (h : w.grownBy w' (some b)) (k : Nat) (u : Value) : w.grownBy (w'.setCell ⟨b, k, none⟩ u) (some b) := ⟨h.os, h.tape, h.output, by simpa [World.setCell] using h.size, fun q hq hne => (Below.heap_setCell _ _ _ _ (by intro e; exact hne (by rw [e]))).trans (h.block q hq hne)⟩
theorem grown_keep {w w1 w2 : World} {b : Nat} (h : w.grownBy w1 (some b)) (k : Below w1.heap.size w1 w2) : w.grownBy w2 (some b) := h.andThen (grown_of_below k) (fun j e => by cases e)
end Go.Proofs.Ytmjapbjjfhmohaa
