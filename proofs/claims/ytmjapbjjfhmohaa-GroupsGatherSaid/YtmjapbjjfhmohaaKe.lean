/- G13u in one. -/
import Derived.Test.YtmjapbjjfhmohaaKd
namespace Go.Proofs.Ytmjapbjjfhmohaa
set_option linter.unusedVariables false
set_option linter.unusedSimpArgs false
open Go.ChangeShapes Go.WideShapes Go.ChangeAt Go.RowKit
set_option maxHeartbeats 4000000 in
theorem listed_up (F : Fv) (w0 w : World) (B b : Nat) (a ps : Int) (v : Value) (L : List Nat) (s : Nat) (hk : Wk F w0 w B b a 1 ps v L) (hv : Ready F v L) (hr : F.Rep) (hc : F.cn ≤ 1000000) (ha1 : -2305843009213693952 ≤ a) (ha2 : a ≤ 2305843009213693952) (hs : a.fmod F.N = s) (hp0 : 0 ≤ ps) (hp : ps ≤ 2 * F.cn) :
    Calls Try.prog 90 #[.pointer (some ⟨b, 0, none⟩), .int .i64 s] w fun e w' => WkOut F w0 w B b a 1 e w' := by
  have q60 : ∀ (w : World) (a : Option Addr) (n c n' c' : Nat), (binOp .eql 33 (.slice a n c) (.slice none n' c')).run Try.prog w = .ok (.bool a.isNone) w := fun w a n c n' c' => Lib.run_eql_slice_nil w _ _ a n c n' c' Try.underlying33
  obtain ⟨P, N, co, cn, cc, oo, on, oc, cs, os⟩ := F
  obtain ⟨r1, r2⟩ := hr
  have r1 : 0 < N := r1
  obtain rfl : N = (cn : Int) := r2
  have HL : Hid (cs.length = cn) := Lib.hid hk.f.core.len
  have hc : cn ≤ 1000000 := hc
  have HK := Lib.hid hk
  have HV := Lib.hid hv
  have HS := Lib.hid hs
  have HP : Hid (0 ≤ ps ∧ ps ≤ 2 * (cn : Int)) := Lib.hid ⟨hp0, hp⟩
  have hmc : cn ≤ 9223372036854775807 := by omega
  clear hk hv hs hp0 hp
  have s1 : s < cn := by have := fmod_nat a r1; have h2 := HS.out; simp only at h2; omega
  obtain ⟨ao, n, c, rfl, HI⟩ : ∃ ao n c, v = .slice ao n c ∧ Hid (n = L.length ∧ InAt w ao n c L) := by
    obtain ⟨ao, c, h1, h2⟩ := own_in HK.out.own
    exact ⟨ao, _, c, h1, Lib.hid ⟨rfl, h2⟩⟩
  have HC := Lib.hid (fun k => HK.out.cell k)
  have c0 : w.cell? ⟨b, 0, none⟩ = some (.int .i64 P) := HC.out 0
  have c1 : w.cell? ⟨b, 1, none⟩ = some (.int .i64 cn) := HC.out 1
  have c2 : w.cell? ⟨b, 2, none⟩ = some (.slice co cn cc) := HC.out 2
  have c4 : w.cell? ⟨b, 4, none⟩ = some (.int .i64 a) := HC.out 4
  have c5 : w.cell? ⟨b, 5, none⟩ = some (.int .i64 1) := HC.out 5
  have c7 : w.cell? ⟨b, 7, none⟩ = some (.slice ao n c) := HC.out 7
  have f4 := HK.out.free 4
  go_enter Try.func90, Try.ntmps90
  cases ao with
  | none =>
    have HN : Hid (n = 0 ∧ c = 0) := Lib.hid (HI.out.2.bare rfl)
    obtain ⟨rfl, rfl⟩ := HN.out
    have HK0 : Hid (∃ v2, Wk ⟨P, (cn : Int), co, cn, cc, oo, on, oc, cs, os⟩ w0 w w.heap.size b a 1 ps v2 (fulls 0 (cs.take 0)) ∧ w.grownBy w (some b)) := Lib.hid ⟨.slice none 0 0, ⟨HK.out.f, HK.out.bw, HK.out.lo, Nat.lt_of_lt_of_le HK.out.hi HK.out.sz, Nat.le_refl _, HK.out.blk, World.ownsRow_nil _ _ _ _⟩, World.grownBy.refl w _⟩
    have HB := Lib.hid (And.intro HK.out.hi HK.out.sz)
    clear HV HC HI HN
    go_wp2
    clear HK
    go_loopw [21] (fun ii wr => ∃ i : Nat, i ≤ cn ∧ ii = .int .i64 i ∧ Hid (∃ v2, Wk ⟨P, (cn : Int), co, cn, cc, oo, on, oc, cs, os⟩ w0 wr w.heap.size b a 1 ps v2 (fulls 0 (cs.take i)) ∧ w.grownBy wr (some b))) (fun ii _ => cn - (intOf ii).toNat)
    case atStart => exact ⟨0, Nat.zero_le _, rfl, HK0⟩
    case round =>
      obtain ⟨i, hi, rfl, HW⟩ := hrel
      obtain ⟨v2, hw, hg⟩ := HW.out
      have HWK := Lib.hid hw
      have HG := Lib.hid hg
      clear hw hg
      clear HW
      by_cases ilt : i < cn
      · have HO := Lib.hid HWK.out.own
        have HCW := Lib.hid (HWK.out.at0.core)
        obtain ⟨g, p, e, hc⟩ := (show CoAt wr co cn cc cs from HCW.out).here (by omega)
        cases e
        have hil : i < cs.length := by rw [HL.out]; exact ilt
        obtain ⟨o, m, d, d1, d2⟩ := hc i hil
        have HT := Lib.hid (fulls_take hil)
        have HM := Lib.hid d2.len
        have i0 : (0 : Int) ≤ (i : Int) := by omega
        have i1 : (i : Int) < (cn : Int) := by omega
        by_cases hm : m = 0
        · have HT2 : Hid (fulls 0 (cs.take (i + 1)) = fulls 0 (cs.take i)) := Lib.hid (by
            rw [HT.out, if_neg (fun q => q (List.eq_nil_of_length_eq_zero (by rw [HM.out]; exact hm))), List.append_nil])
          have m0 : ¬ (0 : Int) < (m : Int) := by omega
          clear hc d2 HT HM HCW
          clear hil
          go_wp2
          go_roundw
          case rel => exact ⟨i + 1, by omega, by go_num, Lib.hid ⟨v2, by rw [HT2.out]; exact HWK.out, HG.out⟩⟩
          case measure => simp [intOf]; omega
        · have HT2 : Hid (fulls 0 (cs.take (i + 1)) = fulls 0 (cs.take i) ++ [i]) := Lib.hid (by
            rw [HT.out, if_pos (fun q => hm (by rw [← HM.out, q]; rfl))])
          have m0 : (0 : Int) < (m : Int) := by omega
          have HLN : Hid ((fulls 0 (cs.take i)).length ≤ 1000000) := Lib.hid (by
            have h1 := fulls_len 0 (cs.take i); have h2 := List.length_take_le i cs; omega)
          have w7 : wr.cell? ⟨b, 7, none⟩ = some v2 := HWK.out.cell 7
          have HSZ := Lib.hid HWK.out.sz
          clear hc d2 HT HM HCW
          clear hil
          go_wp2_with (at_builtin; refine appI rfl _ _ rfl w.heap.size v2 (fulls 0 (cs.take i)) (by rfl) HO.out i _ wr.heap.size rfl (by rfl) HLN.out HSZ.out ?_; intro v3 w3 ho3 hg3; have ho4 : w3.ownsRow w.heap.size 3 1 v3 (fulls 0 (cs.take i) ++ [i]).length (natC (fulls 0 (cs.take i) ++ [i])) := (by rw [List.length_append]; exact ho3); obtain ⟨ao3, c3, hv3, hin3⟩ := own_in ho4; obtain ⟨n3, hn3⟩ : ∃ q, (fulls 0 (cs.take i) ++ [i]).length = q := ⟨_, rfl⟩; rw [hn3] at hv3; subst hv3; have HA := Lib.hid (Wk.app HWK.out hg3 ho4); have HGG := Lib.hid (grown_app (v3 := .slice ao3 n3 c3) HG.out HO.out hg3); have w37 := (blk_cell HA.out.1).1; have f37 := (blk_cell HA.out.1).2; clear ho3 ho4 hg3 hin3 w7 hn3)
          rw [← HT2.out] at HA
          go_roundw
          case rel => exact ⟨i + 1, by omega, by go_num, Lib.hid ⟨_, HA.out.2, HGG.out⟩⟩
          case measure => simp [intOf]; omega
      · obtain rfl : cn = i := by omega
        have HT : Hid (fulls 0 (cs.take cn) = fulls 0 cs) := Lib.hid (by rw [List.take_of_length_le (by rw [HL.out]; exact Nat.le_refl _)])
        rw [HT.out] at HWK
        clear HT
        obtain ⟨ao, n, c, rfl, HI⟩ : ∃ ao n c, v2 = .slice ao n c ∧ Hid (n = (fulls 0 cs).length ∧ InAt wr ao n c (fulls 0 cs)) := by
          obtain ⟨ao, c, h1, h2⟩ := own_in HWK.out.own
          exact ⟨ao, _, c, h1, Lib.hid ⟨rfl, h2⟩⟩
        have HK := Lib.hid (HWK.out.base HB.out.1 HB.out.2)
        have HC := Lib.hid (fun k => HK.out.cell k)
        clear HWK HB HK0 c0 c1 c2 c4 c5 c7 f4
        have c0 : wr.cell? ⟨b, 0, none⟩ = some (.int .i64 P) := HC.out 0
        have c1 : wr.cell? ⟨b, 1, none⟩ = some (.int .i64 cn) := HC.out 1
        have c2 : wr.cell? ⟨b, 2, none⟩ = some (.slice co cn cc) := HC.out 2
        have c4 : wr.cell? ⟨b, 4, none⟩ = some (.int .i64 a) := HC.out 4
        have c5 : wr.cell? ⟨b, 5, none⟩ = some (.int .i64 1) := HC.out 5
        have c7 : wr.cell? ⟨b, 7, none⟩ = some (.slice ao n c) := HC.out 7
        have f4 := HK.out.free 4
        clear HC
        have HBS := Lib.hid (bs_any (ao) n c (fulls 0 cs) s wr HI.out.2 (fulls_inc 0 cs) (by have := fulls_len 0 cs; have h2 := HI.out.1; have := HL.out; omega))
        go_wp2_with fail
        (with_reducible refine HBS.out.mono ?_)
        rintro e w9 ⟨⟨i, f, hin, rfl, HN, HF⟩, hw9⟩
        obtain rfl := hw9.out
        clear hw9 HBS
        cases f
        · have HNI : Hid (NIs (fulls 0 cs) (s + 1) i) := Lib.hid ⟨fun j h q => by have := HN.out.low j h q; omega, fun j h q => by
            have h1 := HN.out.high j h q
            by_cases e : (fulls 0 cs)[j] = s
            · have : ¬ ∃ h : i < (fulls 0 cs).length, (fulls 0 cs)[i] = s := fun h => by have := HF.out.2 h; cases this
              have hi : i < (fulls 0 cs).length := by omega
              have h3 := HN.out.high i hi (Nat.le_refl _)
              have h4 := ninc_le (fulls_inc 0 cs) i j hi h q
              exact absurd ⟨hi, by omega⟩ this
            · omega⟩
          have x0 : (0 : Int) ≤ ((i : Nat) : Int) := by omega
          by_cases h0 : n = 0
          · obtain rfl : n = 0 := h0
            have t0 : (((0 : Nat) : Int) == 0) = true := rfl
            have HE : Hid (∀ i, cg cs P cn i = []) := Lib.hid (fun i => (cg_nil r1 (by rw [HL.out])).2 (none_full r1 (by rw [HL.out]) (List.eq_nil_of_length_eq_zero HI.out.1.symm) i))
            go_wp2
            go_returns
            exact ⟨a, ps, _, _, HK.out, .inr rfl, .inr ⟨rfl, rfl, HE.out⟩, HP.out.1, HP.out.2, HG.out⟩
          · have t0 : ((n : Int) == 0) = false := by simp; omega
            by_cases h1 : i = n
            · have t1 : (((i : Nat) : Int) == (n : Int)) = true := by simp; omega
              obtain ⟨g, p, e, hcell⟩ := HI.out.2.here (by omega)
              cases e
              have hidx : 0 < (fulls 0 cs).length := by have := HI.out.1; omega
              have d0 := hcell (0) hidx
              have HX : Hid (Nxt cs cn a 1 (a + (((fulls 0 cs)[0]'hidx : Nat) + cn - s))) := Lib.hid ((nxt_up r1 (by rw [HL.out]) HS.out HNI.out (fun h => by have := HI.out.1; rw [h] at this; exact h0 this)).2 (by have := HI.out.1; omega) hidx)
              have HZ : Hid ((fulls 0 cs)[0]'hidx < cn) := Lib.hid (by
                obtain ⟨k, hk, e2, _⟩ := mem_fulls.1 (List.getElem_mem hidx); have := HL.out; omega)
              obtain ⟨z, hz⟩ : ∃ z, (fulls 0 cs)[0]'hidx = z := ⟨_, rfl⟩
              rw [hz] at d0 HX HZ
              clear hz hcell
              clear hidx
              have z1 := HZ.out
              try simp only [Nat.add_zero] at d0
              go_wp2
              go_region
              go_wp2
              go_returns
              exact ⟨a + (z + cn - s), ps, _, _, (HK.out.put 4 (.int .i64 (a + (z + cn - s))) rfl HK.out.own).keep (Below.refl _ _).drew, .inr rfl, .inl ⟨_, rfl, rfl, HX.out, r1, rfl⟩, HP.out.1, HP.out.2, grown_put HG.out 4 _⟩
            · have t1 : (((i : Nat) : Int) == (n : Int)) = false := by simp; omega
              have x1 : ((i : Nat) : Int) < (n : Int) := by omega
              obtain ⟨g, p, e, hcell⟩ := HI.out.2.here (by omega)
              cases e
              have hidx : i < (fulls 0 cs).length := by have := HI.out.1; omega
              have d0 := hcell (i) hidx
              have HX : Hid (Nxt cs cn a 1 (a + (((fulls 0 cs)[i]'hidx : Nat) - s))) := Lib.hid ((nxt_up r1 (by rw [HL.out]) HS.out HNI.out (fun h => by have := HI.out.1; rw [h] at this; exact h0 this)).1 hidx)
              have HZ : Hid ((fulls 0 cs)[i]'hidx < cn) := Lib.hid (by
                obtain ⟨k, hk, e2, _⟩ := mem_fulls.1 (List.getElem_mem hidx); have := HL.out; omega)
              obtain ⟨z, hz⟩ : ∃ z, (fulls 0 cs)[i]'hidx = z := ⟨_, rfl⟩
              rw [hz] at d0 HX HZ
              clear hz hcell
              clear hidx
              have z1 := HZ.out
              try simp only [Nat.add_zero] at d0
              go_wp2
              go_region
              go_wp2
              go_returns
              exact ⟨a + (z - s), ps, _, _, (HK.out.put 4 (.int .i64 (a + (z - s))) rfl HK.out.own).keep (Below.refl _ _).drew, .inr rfl, .inl ⟨_, rfl, rfl, HX.out, r1, rfl⟩, HP.out.1, HP.out.2, grown_put HG.out 4 _⟩
        · have HNI : Hid (NIs (fulls 0 cs) (s + 1) (i + 1)) := Lib.hid (by
            obtain ⟨hi, he⟩ := HF.out.1 rfl
            exact ⟨fun j h q => by
              have := ninc_le (fulls_inc 0 cs) j i h hi (by omega); omega, fun j h q => by
              have := ninc_at (fulls_inc 0 cs) i j hi h (by omega); omega⟩)
          have hin2 : i + 1 ≤ n := by obtain ⟨hi, he⟩ := HF.out.1 rfl; have := HI.out.1; omega
          obtain ⟨x, hx⟩ : ∃ x, i + 1 = x := ⟨_, rfl⟩
          rw [hx] at HNI hin2
          have nb : n ≤ 1000000 := by have := fulls_len 0 cs; have h2 := HI.out.1; have := HL.out; omega
          have t9 : (i : Int) + 1 = (x : Int) := by omega
          clear hx
          have x0 : (0 : Int) ≤ ((x : Nat) : Int) := by omega
          by_cases h0 : n = 0
          · omega
          · have t0 : ((n : Int) == 0) = false := by simp; omega
            by_cases h1 : x = n
            · have t1 : (((x : Nat) : Int) == (n : Int)) = true := by simp; omega
              obtain ⟨g, p, e, hcell⟩ := HI.out.2.here (by omega)
              cases e
              have hidx : 0 < (fulls 0 cs).length := by have := HI.out.1; omega
              have d0 := hcell (0) hidx
              have HX : Hid (Nxt cs cn a 1 (a + (((fulls 0 cs)[0]'hidx : Nat) + cn - s))) := Lib.hid ((nxt_up r1 (by rw [HL.out]) HS.out HNI.out (fun h => by have := HI.out.1; rw [h] at this; exact h0 this)).2 (by have := HI.out.1; omega) hidx)
              have HZ : Hid ((fulls 0 cs)[0]'hidx < cn) := Lib.hid (by
                obtain ⟨k, hk, e2, _⟩ := mem_fulls.1 (List.getElem_mem hidx); have := HL.out; omega)
              obtain ⟨z, hz⟩ : ∃ z, (fulls 0 cs)[0]'hidx = z := ⟨_, rfl⟩
              rw [hz] at d0 HX HZ
              clear hz hcell
              clear hidx
              have z1 := HZ.out
              try simp only [Nat.add_zero] at d0
              go_wp2
              go_region
              go_wp2
              go_returns
              exact ⟨a + (z + cn - s), ps, _, _, (HK.out.put 4 (.int .i64 (a + (z + cn - s))) rfl HK.out.own).keep (Below.refl _ _).drew, .inr rfl, .inl ⟨_, rfl, rfl, HX.out, r1, rfl⟩, HP.out.1, HP.out.2, grown_put HG.out 4 _⟩
            · have t1 : (((x : Nat) : Int) == (n : Int)) = false := by simp; omega
              have x1 : ((x : Nat) : Int) < (n : Int) := by omega
              obtain ⟨g, p, e, hcell⟩ := HI.out.2.here (by omega)
              cases e
              have hidx : x < (fulls 0 cs).length := by have := HI.out.1; omega
              have d0 := hcell (x) hidx
              have HX : Hid (Nxt cs cn a 1 (a + (((fulls 0 cs)[x]'hidx : Nat) - s))) := Lib.hid ((nxt_up r1 (by rw [HL.out]) HS.out HNI.out (fun h => by have := HI.out.1; rw [h] at this; exact h0 this)).1 hidx)
              have HZ : Hid ((fulls 0 cs)[x]'hidx < cn) := Lib.hid (by
                obtain ⟨k, hk, e2, _⟩ := mem_fulls.1 (List.getElem_mem hidx); have := HL.out; omega)
              obtain ⟨z, hz⟩ : ∃ z, (fulls 0 cs)[x]'hidx = z := ⟨_, rfl⟩
              rw [hz] at d0 HX HZ
              clear hz hcell
              clear hidx
              have z1 := HZ.out
              try simp only [Nat.add_zero] at d0
              go_wp2
              go_region
              go_wp2
              go_returns
              exact ⟨a + (z - s), ps, _, _, (HK.out.put 4 (.int .i64 (a + (z - s))) rfl HK.out.own).keep (Below.refl _ _).drew, .inr rfl, .inl ⟨_, rfl, rfl, HX.out, r1, rfl⟩, HP.out.1, HP.out.2, grown_put HG.out 4 _⟩
  | some ad =>
    have HLF : Hid (L = fulls 0 cs) := Lib.hid (by rcases HV.out with h | h; · cases h
                                                   · exact h)
    have HG : Hid (w.grownBy w (some b)) := Lib.hid (World.grownBy.refl w _)
    obtain rfl := HLF.out
    clear HV HC HLF
    have HBS := Lib.hid (bs_any (some ad) n c (fulls 0 cs) s w HI.out.2 (fulls_inc 0 cs) (by have := fulls_len 0 cs; have h2 := HI.out.1; have := HL.out; omega))
    go_wp2_with fail
    (with_reducible refine HBS.out.mono ?_)
    rintro e w9 ⟨⟨i, f, hin, rfl, HN, HF⟩, hw9⟩
    obtain rfl := hw9.out
    clear hw9 HBS
    cases f
    · have HNI : Hid (NIs (fulls 0 cs) (s + 1) i) := Lib.hid ⟨fun j h q => by have := HN.out.low j h q; omega, fun j h q => by
        have h1 := HN.out.high j h q
        by_cases e : (fulls 0 cs)[j] = s
        · have : ¬ ∃ h : i < (fulls 0 cs).length, (fulls 0 cs)[i] = s := fun h => by have := HF.out.2 h; cases this
          have hi : i < (fulls 0 cs).length := by omega
          have h3 := HN.out.high i hi (Nat.le_refl _)
          have h4 := ninc_le (fulls_inc 0 cs) i j hi h q
          exact absurd ⟨hi, by omega⟩ this
        · omega⟩
      have x0 : (0 : Int) ≤ ((i : Nat) : Int) := by omega
      by_cases h0 : n = 0
      · obtain rfl : n = 0 := h0
        have t0 : (((0 : Nat) : Int) == 0) = true := rfl
        have HE : Hid (∀ i, cg cs P cn i = []) := Lib.hid (fun i => (cg_nil r1 (by rw [HL.out])).2 (none_full r1 (by rw [HL.out]) (List.eq_nil_of_length_eq_zero HI.out.1.symm) i))
        go_wp2
        go_returns
        exact ⟨a, ps, _, _, HK.out, .inr rfl, .inr ⟨rfl, rfl, HE.out⟩, HP.out.1, HP.out.2, HG.out⟩
      · have t0 : ((n : Int) == 0) = false := by simp; omega
        by_cases h1 : i = n
        · have t1 : (((i : Nat) : Int) == (n : Int)) = true := by simp; omega
          obtain ⟨g, p, e, hcell⟩ := HI.out.2.here (by omega)
          cases e
          have hidx : 0 < (fulls 0 cs).length := by have := HI.out.1; omega
          have d0 := hcell (0) hidx
          have HX : Hid (Nxt cs cn a 1 (a + (((fulls 0 cs)[0]'hidx : Nat) + cn - s))) := Lib.hid ((nxt_up r1 (by rw [HL.out]) HS.out HNI.out (fun h => by have := HI.out.1; rw [h] at this; exact h0 this)).2 (by have := HI.out.1; omega) hidx)
          have HZ : Hid ((fulls 0 cs)[0]'hidx < cn) := Lib.hid (by
            obtain ⟨k, hk, e2, _⟩ := mem_fulls.1 (List.getElem_mem hidx); have := HL.out; omega)
          obtain ⟨z, hz⟩ : ∃ z, (fulls 0 cs)[0]'hidx = z := ⟨_, rfl⟩
          rw [hz] at d0 HX HZ
          clear hz hcell
          clear hidx
          have z1 := HZ.out
          try simp only [Nat.add_zero] at d0
          go_wp2
          go_region
          go_wp2
          go_returns
          exact ⟨a + (z + cn - s), ps, _, _, (HK.out.put 4 (.int .i64 (a + (z + cn - s))) rfl HK.out.own).keep (Below.refl _ _).drew, .inr rfl, .inl ⟨_, rfl, rfl, HX.out, r1, rfl⟩, HP.out.1, HP.out.2, grown_put HG.out 4 _⟩
        · have t1 : (((i : Nat) : Int) == (n : Int)) = false := by simp; omega
          have x1 : ((i : Nat) : Int) < (n : Int) := by omega
          obtain ⟨g, p, e, hcell⟩ := HI.out.2.here (by omega)
          cases e
          have hidx : i < (fulls 0 cs).length := by have := HI.out.1; omega
          have d0 := hcell (i) hidx
          have HX : Hid (Nxt cs cn a 1 (a + (((fulls 0 cs)[i]'hidx : Nat) - s))) := Lib.hid ((nxt_up r1 (by rw [HL.out]) HS.out HNI.out (fun h => by have := HI.out.1; rw [h] at this; exact h0 this)).1 hidx)
          have HZ : Hid ((fulls 0 cs)[i]'hidx < cn) := Lib.hid (by
            obtain ⟨k, hk, e2, _⟩ := mem_fulls.1 (List.getElem_mem hidx); have := HL.out; omega)
          obtain ⟨z, hz⟩ : ∃ z, (fulls 0 cs)[i]'hidx = z := ⟨_, rfl⟩
          rw [hz] at d0 HX HZ
          clear hz hcell
          clear hidx
          have z1 := HZ.out
          try simp only [Nat.add_zero] at d0
          go_wp2
          go_region
          go_wp2
          go_returns
          exact ⟨a + (z - s), ps, _, _, (HK.out.put 4 (.int .i64 (a + (z - s))) rfl HK.out.own).keep (Below.refl _ _).drew, .inr rfl, .inl ⟨_, rfl, rfl, HX.out, r1, rfl⟩, HP.out.1, HP.out.2, grown_put HG.out 4 _⟩
    · have HNI : Hid (NIs (fulls 0 cs) (s + 1) (i + 1)) := Lib.hid (by
        obtain ⟨hi, he⟩ := HF.out.1 rfl
        exact ⟨fun j h q => by
          have := ninc_le (fulls_inc 0 cs) j i h hi (by omega); omega, fun j h q => by
          have := ninc_at (fulls_inc 0 cs) i j hi h (by omega); omega⟩)
      have hin2 : i + 1 ≤ n := by obtain ⟨hi, he⟩ := HF.out.1 rfl; have := HI.out.1; omega
      obtain ⟨x, hx⟩ : ∃ x, i + 1 = x := ⟨_, rfl⟩
      rw [hx] at HNI hin2
      have nb : n ≤ 1000000 := by have := fulls_len 0 cs; have h2 := HI.out.1; have := HL.out; omega
      have t9 : (i : Int) + 1 = (x : Int) := by omega
      clear hx
      have x0 : (0 : Int) ≤ ((x : Nat) : Int) := by omega
      by_cases h0 : n = 0
      · omega
      · have t0 : ((n : Int) == 0) = false := by simp; omega
        by_cases h1 : x = n
        · have t1 : (((x : Nat) : Int) == (n : Int)) = true := by simp; omega
          obtain ⟨g, p, e, hcell⟩ := HI.out.2.here (by omega)
          cases e
          have hidx : 0 < (fulls 0 cs).length := by have := HI.out.1; omega
          have d0 := hcell (0) hidx
          have HX : Hid (Nxt cs cn a 1 (a + (((fulls 0 cs)[0]'hidx : Nat) + cn - s))) := Lib.hid ((nxt_up r1 (by rw [HL.out]) HS.out HNI.out (fun h => by have := HI.out.1; rw [h] at this; exact h0 this)).2 (by have := HI.out.1; omega) hidx)
          have HZ : Hid ((fulls 0 cs)[0]'hidx < cn) := Lib.hid (by
            obtain ⟨k, hk, e2, _⟩ := mem_fulls.1 (List.getElem_mem hidx); have := HL.out; omega)
          obtain ⟨z, hz⟩ : ∃ z, (fulls 0 cs)[0]'hidx = z := ⟨_, rfl⟩
          rw [hz] at d0 HX HZ
          clear hz hcell
          clear hidx
          have z1 := HZ.out
          try simp only [Nat.add_zero] at d0
          go_wp2
          go_region
          go_wp2
          go_returns
          exact ⟨a + (z + cn - s), ps, _, _, (HK.out.put 4 (.int .i64 (a + (z + cn - s))) rfl HK.out.own).keep (Below.refl _ _).drew, .inr rfl, .inl ⟨_, rfl, rfl, HX.out, r1, rfl⟩, HP.out.1, HP.out.2, grown_put HG.out 4 _⟩
        · have t1 : (((x : Nat) : Int) == (n : Int)) = false := by simp; omega
          have x1 : ((x : Nat) : Int) < (n : Int) := by omega
          obtain ⟨g, p, e, hcell⟩ := HI.out.2.here (by omega)
          cases e
          have hidx : x < (fulls 0 cs).length := by have := HI.out.1; omega
          have d0 := hcell (x) hidx
          have HX : Hid (Nxt cs cn a 1 (a + (((fulls 0 cs)[x]'hidx : Nat) - s))) := Lib.hid ((nxt_up r1 (by rw [HL.out]) HS.out HNI.out (fun h => by have := HI.out.1; rw [h] at this; exact h0 this)).1 hidx)
          have HZ : Hid ((fulls 0 cs)[x]'hidx < cn) := Lib.hid (by
            obtain ⟨k, hk, e2, _⟩ := mem_fulls.1 (List.getElem_mem hidx); have := HL.out; omega)
          obtain ⟨z, hz⟩ : ∃ z, (fulls 0 cs)[x]'hidx = z := ⟨_, rfl⟩
          rw [hz] at d0 HX HZ
          clear hz hcell
          clear hidx
          have z1 := HZ.out
          try simp only [Nat.add_zero] at d0
          go_wp2
          go_region
          go_wp2
          go_returns
          exact ⟨a + (z - s), ps, _, _, (HK.out.put 4 (.int .i64 (a + (z - s))) rfl HK.out.own).keep (Below.refl _ _).drew, .inr rfl, .inl ⟨_, rfl, rfl, HX.out, r1, rfl⟩, HP.out.1, HP.out.2, grown_put HG.out 4 _⟩
end Go.Proofs.Ytmjapbjjfhmohaa
