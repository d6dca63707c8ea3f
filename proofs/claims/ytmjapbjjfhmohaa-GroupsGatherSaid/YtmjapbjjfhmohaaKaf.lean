/- X2, C6, Y1 in one. -/
import Derived.Test.YtmjapbjjfhmohaaKab
import Derived.Test.YtmjapbjjfhmohaaKac
import Derived.Test.YtmjapbjjfhmohaaKad
import Derived.Test.YtmjapbjjfhmohaaKae
import Derived.Test.YtmjapbjjfhmohaaKu
import Derived.Test.YtmjapbjjfhmohaaKo
import Derived.Deep.RegionHeld3
import Derived.Test.YtmjapbjjfhmohaaKk
namespace Go.Proofs.Ytmjapbjjfhmohaa
set_option linter.unusedVariables false
set_option linter.unusedSimpArgs false
open Go.ChangeShapes Go.WideShapes Go.ChangeAt Go.RowKit Go.Shelf

theorem own_is {F G K : Fv} {w : World} {B : Nat} (h : IsCan F G) (k : IsCan F K) (ho : G.Own w B) (hc : K.cs.length = K.cn) (hd : K.os.length = K.on) : G = ⟨K.P, K.N, G.co, K.cn, G.cc, G.oo, K.on, G.oc, K.cs, K.os⟩ := by
  obtain ⟨e1, e2, e3, e4⟩ := isCan_unique h k
  have l1 := ho.at_.core.len
  have l2 := ho.at_.odd.len
  obtain ⟨P, N, co, cn, cc, oo, on, oc, cs, os⟩ := G
  dsimp only at e1 e2 e3 e4 l1 l2 ⊢
  rw [e1, e2, e3, e4, ← hc, ← hd, ← l1, ← l2, e3, e4]
/-- A form of one set. -/
theorem mid_one {P : Int} {l : List Sp} {os : List Gr} (co : Option Addr) (cc : Nat) (oo : Option Addr) (oc : Nat) (h1 : os.length ≤ 6000) (h2 : l.length + lens (tks os) ≤ 60000) : (oneF P l os co cc oo oc).Mid := ⟨show 1 ≤ 6000 by decide, h1, by show lens [l] + lens (tks os) ≤ 60000; simp [lens] at h2 ⊢; omega⟩
theorem mid_days (co : Option Addr) (cc : Nat) : (daysF co cc).Mid := mid_one (l := [(0, 0)]) (os := []) co cc none 0 (by decide) (by decide)
theorem mid_wide (co : Option Addr) (cc : Nat) : (wideF co cc).Mid := mid_one (l := [(0, 0)]) (os := []) co cc none 0 (by decide) (by decide)
theorem small_days (co : Option Addr) (cc : Nat) : (daysF co cc).Small := ⟨show 1 ≤ 12 by decide, show 0 ≤ 8 by decide, show lens [[((0 : Int), (0 : Int))]] + lens (tks []) ≤ 60 by decide⟩
theorem likeK {F K : Fv} (h : F.Rt) (e1 : K.P = F.P) (e2 : K.N = F.N) (e3 : K.cn = F.cn) (e4 : K.on = F.on) (e5 : K.cs = F.cs) (e6 : K.os = F.os) : K.Rt := rt_like h e1 e2 e3 e4 e5 e6
theorem can_like {K F G : Fv} (h : IsCan K G) (e1 : K.P = F.P) (e2 : K.N = F.N) (e5 : K.cs = F.cs) (e6 : K.os = F.os) : IsCan F G := by
  obtain ⟨a, b, c, d, e⟩ := h
  rw [e5, e1, e2] at a
  rw [e1, e2] at c
  rw [e5] at d
  unfold canOs at e
  rw [e6, e5, e1, e2] at e
  exact ⟨a, b, c, d, e⟩
theorem gp_third {F : Fv} {m a k n₀ : Nat} {e : Ending} {w' : World} (h : GpOut F m a k n₀ e w') (ok : GrpOK F m a k) (X : Fv) (hX : gpF F m a k = X) (sz : X.size ≤ 60000) (rt : X.Rt) : ∃ G : Fv, IsCan X G ∧ G.Own w' n₀ ∧ e = .returned (.tuple #[G.v, .int .i64 0]) := by
  subst hX
  rcases h with ⟨_, h⟩ | ⟨_, h⟩ | ⟨_, _, K, G, ⟨e1, e2, e3, e4, e5, e6⟩, _, c, d, rfl⟩
  · rcases h with h | ⟨_, h⟩
    · have := ok.1.1; omega
    · omega
  · rcases h with ⟨_, h⟩ | ⟨_, _, h⟩
    · exact absurd ok h
    · exact absurd rt h
  · exact ⟨G, can_like c e1 e2 e5 e6, d, rfl⟩
theorem ex_week (co : Option Addr) (cc : Nat) (w : World) (hF : (daysF co cc).At w) : Calls Try.prog 8 #[(daysF co cc).v, .int .i64 7] w fun e w' => ∃ ao ac lo lc, e = .returned (.tuple #[(oneF 7 [(0, 6)] [] ao ac lo lc).v, .int .i64 0]) ∧ Hid ((oneF 7 [(0, 6)] [] ao ac lo lc).At w') ∧ Hid (Below w.heap.size w w') := by
  have h := group_any (daysF co cc) 7 1 7 w hF (rt_days co cc) (mid_days co cc) (show 1 ≤ 12 by decide) (show 0 ≤ 8 by decide) (len1 (by decide)) (fun o ho => by cases ho) (by decide) (by decide) (pa_days co cc)
  refine h.mono ?_
  rintro e w' ⟨a, q⟩
  obtain ⟨G, c, d, rfl⟩ := gp_third a (week_ok co cc).1 _ (week_ok co cc).2 (by decide) rt_seven
  have e := own_is c (can_one (by simp) rfl none 0 none 0 none 0 none 0) d rfl rfl
  have ha := d.at_
  rw [e] at ha
  exact ⟨_, _, _, _, (by rw [e]), Lib.hid ha, q⟩
theorem ex_two (co : Option Addr) (cc : Nat) (oo : Option Addr) (oc : Nat) (w : World) (hF : (weeksF 7 [(1, [(8, 11)])] co cc oo oc).At w) : Calls Try.prog 8 #[(weeksF 7 [(1, [(8, 11)])] co cc oo oc).v, .int .i64 2] w fun e w' => ∃ ao ac lo lc, e = .returned (.tuple #[(oneF 14 [(0, 4), (7, 11)] twoOs ao ac lo lc).v, .int .i64 0]) ∧ Hid ((oneF 14 [(0, 4), (7, 11)] twoOs ao ac lo lc).At w') ∧ Hid (Below w.heap.size w w') := by
  have h := group_any (weeksF 7 [(1, [(8, 11)])] co cc oo oc) 2 1 2 w hF (rt_some co cc oo oc) (mid_one co cc oo oc (by decide) (by decide)) (show 1 ≤ 12 by decide) (show 1 ≤ 8 by decide) (len1 (by decide)) (fun o ho => by rw [List.mem_singleton.1 ho]; decide) (by decide) (by decide) (pa_weeks _ co cc oo oc)
  refine h.mono ?_
  rintro e w' ⟨a, q⟩
  obtain ⟨G, c, d, rfl⟩ := gp_third a (two_ok co cc oo oc).1 _ (two_ok co cc oo oc).2 (by decide) rt_two
  have e := own_is c (can_two none 0 none 0) d rfl rfl
  have ha := d.at_
  rw [e] at ha
  exact ⟨_, _, _, _, (by rw [e]), Lib.hid ha, q⟩
theorem ex_wide (co : Option Addr) (cc : Nat) (w : World) (hF : (wideF co cc).At w) : Calls Try.prog 8 #[(wideF co cc).v, .int .i64 4] w fun e w' => e = .returned (.tuple #[.agg #[.int .i64 0, .int .i64 0, .slice none 0 0, .slice none 0 0], .int .i64 20]) ∧ Hid (Below w.heap.size w w') := by
  have h := group_any (wideF co cc) 4 1 4 w hF (rt_wide co cc) (mid_wide co cc) (show 1 ≤ 12 by decide) (show 0 ≤ 8 by decide) (len1 (by decide)) (fun o ho => by cases ho) (by decide) (by decide) (pa_wide co cc)
  refine h.mono ?_
  rintro e w' ⟨a, q⟩
  rcases a with ⟨_, h⟩ | ⟨rfl, _⟩ | ⟨h, _⟩
  · rcases h with h | ⟨h, _⟩
    · have h2 : 60000 < 4 * lens [[((0 : Int), (0 : Int))]] := h
      exact absurd h2 (by decide)
    · exact absurd h (wide_bad co cc)
  · exact ⟨rfl, q⟩
  · exact absurd h (wide_bad co cc)
theorem ex_later (co : Option Addr) (cc : Nat) (w : World) (hF : (daysF co cc).At w) : Calls Try.prog 12 #[(daysF co cc).v, .int .i64 3] w fun e w' => ∃ ao ac lo lc, e = .returned (.tuple #[(oneF 1 [(-3, -3)] [] ao ac lo lc).v, .int .i64 0]) ∧ Hid ((oneF 1 [(-3, -3)] [] ao ac lo lc).At w') ∧ Hid (Below w.heap.size w w') := by
  have h := shift_few (daysF co cc) 3 w hF (small_days co cc).few (rt_days co cc) (by decide) (by decide)
  refine h.mono ?_
  rintro e w' ⟨a, q⟩
  rcases a with ⟨h, _⟩ | ⟨_, h, _⟩ | ⟨_, K, G, ⟨⟨e1, e2, e5, e6⟩, e3, e4⟩, _, c, d, rfl⟩
  · exact absurd ⟨by decide, by decide⟩ h
  · rw [later_f] at h; exact absurd rt_later h
  · have lf := later_f co cc
    have c : IsCan (shF (daysF co cc) 3) G := can_like c e1 e2 e5 e6
    rw [lf] at c
    have e := own_is c (can_one (by simp) rfl none 0 none 0 none 0 none 0) d rfl rfl
    have ha := d.at_
    rw [e] at ha
    exact ⟨_, _, _, _, (by show Ending.returned (.tuple #[G.v, .int .i64 0]) = _; rw [e]), Lib.hid ha, q⟩
theorem ex_some (co : Option Addr) (cc : Nat) (w : World) (hF : (daysF co cc).At w) : Calls Try.prog 20 #[(daysF co cc).v, .int .i64 2, .int .i64 4] w fun e w' => ∃ ao ac lo lc, e = .returned (.tuple #[(⟨0, 0, ao, 0, ac, lo, 3, lc, [], someOs⟩ : Fv).v, .int .i64 0]) ∧ Hid ((⟨0, 0, ao, 0, ac, lo, 3, lc, [], someOs⟩ : Fv).At w') ∧ Hid (Below w.heap.size w w') := by
  have h := subset_any (daysF co cc) 2 4 [2, 3, 4] w hF (rt_days co cc) (mid_days co cc) (len1 (by decide)) (fun o ho => by cases ho) ⟨by decide, by decide⟩ ⟨by decide, by decide⟩ (by decide) (sb_days co cc)
  refine h.mono ?_
  rintro e w' ⟨a, q⟩
  have sf := some_f co cc
  have sz : (sbF (daysF co cc) [2, 3, 4]).size ≤ 60000 := by rw [sf]; decide
  have rt : (sbF (daysF co cc) [2, 3, 4]).Rt := by rw [sf]; exact rt_some3 none 0
  rcases a with ⟨h, _⟩ | ⟨_, h, _⟩ | ⟨_, _, ⟨h, _⟩ | ⟨_, h, _⟩ | ⟨_, K, G, ⟨e1, e2, e3, e4, e5, e6⟩, _, c, d, rfl⟩⟩
  · exact absurd h (by decide)
  · exact absurd (some_told co cc) h
  · omega
  · exact absurd rt h
  · have c : IsCan (sbF (daysF co cc) [2, 3, 4]) G := can_like c e1 e2 e5 e6
    rw [sf] at c
    have e := own_is c (can_some none 0 none 0 none 0) d rfl rfl
    have ha := d.at_
    rw [e] at ha
    exact ⟨_, _, _, _, (by show Ending.returned (.tuple #[G.v, .int .i64 0]) = _; rw [e]), Lib.hid ha, q⟩
/-- Two forms in two boxes. -/
structure Fb2 (F G : Fv) (w0 w : World) (b c : Nat) : Prop where
  f : Fbox F w0 w b
  g : Fbox G w0 w c
theorem Fb2.keep {F G : Fv} {w0 w w' : World} {b c : Nat} (h : Fb2 F G w0 w b c) (k : Below w.heap.size w w') : Fb2 F G w0 w' b c := ⟨h.f.keep k, h.g.keep k⟩
theorem fb2_new {F G : Fv} {w : World} (h : F.At w) (h' : G.At w) : Fb2 F G w ((w.alloc (.cells F.box 25)).alloc (.cells G.box 25)) w.heap.size (w.heap.size + 1) := by
  have a := fbox_new h
  have k := (Below.refl _ (w.alloc (.cells F.box 25))).alloc (Nat.le_refl _) (.cells G.box 25)
  have q := fbox_new (h'.keep a.bw)
  have e : (w.alloc (.cells F.box 25)).heap.size = w.heap.size + 1 := by simp
  rw [e] at q
  exact ⟨a.keep k, q.at_, q.c0, q.c1, q.c2, q.c3, (a.keep k).bw⟩
def SameF (F G : Fv) : Prop := F.P = G.P ∧ F.N = G.N ∧ F.cs = G.cs ∧ F.os = G.os
theorem gr_eq {a b : Gr} : a = b ↔ a.1 = b.1 ∧ a.2 = b.2 := Prod.ext_iff
theorem take_eq {α : Type} {a b : List α} (h : a.length = b.length) {k : Nat} (hk : k < a.length) (e : a.take k = b.take k) : a.take (k + 1) = b.take (k + 1) ↔ a[k] = b[k]'(by omega) := by
  have hk' : k < b.length := by omega
  rw [List.take_succ_eq_append_getElem hk, List.take_succ_eq_append_getElem hk', e]
  exact ⟨fun h => List.singleton_inj.1 (List.append_cancel_left h), fun h => by rw [h]⟩
set_option maxRecDepth 8000 in
set_option maxHeartbeats 4000000 in
theorem alikeForms_any (F G : Fv) (w : World) (hF : F.At w) (hG : G.At w) (r : Bool) (hr : r = true ↔ SameF F G) :
    Calls Try.prog 9 #[F.v, G.v] w fun e w' => e = .returned (.bool r) ∧ Below w.heap.size w w' := by
  have HR := Lib.hid hr
  clear hr
  obtain ⟨P, N, co, cn, cc, oo, on, oc, cs, os⟩ := F
  obtain ⟨P', N', co', cn', cc', oo', on', oc', cs', os'⟩ := G
  have LC : Hid (cs.length = cn) := Lib.hid hF.core.len
  have LO : Hid (os.length = on) := Lib.hid hF.odd.len
  have LC' : Hid (cs'.length = cn') := Lib.hid hG.core.len
  have LO' : Hid (os'.length = on') := Lib.hid hG.odd.len
  have hmc : cn ≤ 9223372036854775807 := Nat.le_trans hF.core.le hF.core.top
  have hmo : on ≤ 9223372036854775807 := Nat.le_trans hF.odd.le hF.odd.top
  have hmc' : cn' ≤ 9223372036854775807 := Nat.le_trans hG.core.le hG.core.top
  have hmo' : on' ≤ 9223372036854775807 := Nat.le_trans hG.odd.le hG.odd.top
  have HR : Hid (r = true ↔ P = P' ∧ N = N' ∧ cs = cs' ∧ os = os') := HR
  obtain ⟨b, hb⟩ : ∃ b, w.heap.size = b := ⟨_, rfl⟩
  obtain ⟨c, hc⟩ : ∃ c, b + 1 = c := ⟨_, rfl⟩
  obtain ⟨wb, hwb⟩ : ∃ wb, (w.alloc (.cells #[.int .i64 P, .int .i64 N, .slice co cn cc, .slice oo on oc] 25)).alloc (.cells #[.int .i64 P', .int .i64 N', .slice co' cn' cc', .slice oo' on' oc'] 25) = wb := ⟨_, rfl⟩
  have HBB : Hid (Fb2 ⟨P, N, co, cn, cc, oo, on, oc, cs, os⟩ ⟨P', N', co', cn', cc', oo', on', oc', cs', os'⟩ w wb b c) := Lib.hid (by rw [← hwb, ← hc, ← hb]; exact fb2_new hF hG)
  clear hF hG
  show Calls Try.prog 9 #[.agg #[.int .i64 P, .int .i64 N, .slice co cn cc, .slice oo on oc], .agg #[.int .i64 P', .int .i64 N', .slice co' cn' cc', .slice oo' on' oc']] w _
  go_enter Try.func9, Try.ntmps9
  go_upto_region 1 with fail
  clear hwb hb hc
  have e0 : wb.cell? ⟨b, 0, none⟩ = some (.int .i64 P) := HBB.out.f.c0
  have e1 : wb.cell? ⟨b, 1, none⟩ = some (.int .i64 N) := HBB.out.f.c1
  have e2 : wb.cell? ⟨b, 2, none⟩ = some (.slice co cn cc) := HBB.out.f.c2
  have e3 : wb.cell? ⟨b, 3, none⟩ = some (.slice oo on oc) := HBB.out.f.c3
  have d0 : wb.cell? ⟨c, 0, none⟩ = some (.int .i64 P') := HBB.out.g.c0
  have d1 : wb.cell? ⟨c, 1, none⟩ = some (.int .i64 N') := HBB.out.g.c1
  have d2 : wb.cell? ⟨c, 2, none⟩ = some (.slice co' cn' cc') := HBB.out.g.c2
  have d3 : wb.cell? ⟨c, 3, none⟩ = some (.slice oo' on' oc') := HBB.out.g.c3
  by_cases q0 : P = P'
  · have t0 : (P != P') = false := by simp; exact q0
    by_cases q1 : N = N'
    · have t1 : (N != N') = false := by simp; exact q1
      by_cases q2 : cn = cn'
      · have t2 : ((cn : Int) != (cn' : Int)) = false := by simp; omega
        by_cases q3 : on = on'
        · have t3 : ((on : Int) != (on' : Int)) = false := by simp; omega
          subst q0 q1 q2 q3
          have HRC : Hid (r = true → cs = cs') := Lib.hid (fun h => (HR.out.1 h).2.2.1)
          have HRO : Hid (r = true → os = os') := Lib.hid (fun h => (HR.out.1 h).2.2.2)
          have HRY : Hid (cs = cs' → os = os' → true = r) := Lib.hid (fun h1 h2 => (HR.out.2 ⟨rfl, rfl, h1, h2⟩).symm)
          clear HR
          go_wp2
          clear e0 e1 e2 e3 d0 d1 d2 d3
          clear t0 t1 t2 t3
          go_loopw [42] (fun ii wr => ∃ i : Nat, i ≤ cn ∧ ii = .int .i64 i ∧ Hid (cs.take i = cs'.take i) ∧ Hid (Fb2 ⟨P, N, co, cn, cc, oo, on, oc, cs, os⟩ ⟨P, N, co', cn, cc', oo', on, oc', cs', os'⟩ w wr b c)) (fun ii _ => cn - (intOf ii).toNat)
          case atStart => exact ⟨0, Nat.zero_le _, rfl, Lib.hid rfl, HBB⟩
          case round =>
            obtain ⟨i, hi, rfl, HT, HBB⟩ := hrel
            by_cases ilt : i < cn
            · obtain ⟨g, p, rfl, hc⟩ := (show CoAt wr co cn cc cs from HBB.out.f.at_.core).here (by omega)
              obtain ⟨g', p', rfl, hc'⟩ := (show CoAt wr co' cn cc' cs' from HBB.out.g.at_.core).here (by omega)
              have hil : i < cs.length := by rw [LC.out]; exact ilt
              have hil' : i < cs'.length := by rw [LC'.out]; exact ilt
              obtain ⟨o, m, d, z1, y1⟩ := hc i hil
              obtain ⟨o', m', d', z2, y2⟩ := hc' i hil'
              clear hc hc'
              have HNX := Lib.hid (take_eq (by rw [LC.out, LC'.out]) hil HT.out)
              have HEQ : Hid (cs = cs' → (cs[i]'hil) = (cs'[i]'hil')) := Lib.hid (fun z => by subst z; rfl)
              obtain ⟨r2, hr2⟩ : ∃ r : Bool, r = true ↔ (cs[i]'hil) = (cs'[i]'hil') := by classical exact ⟨decide _, decide_eq_true_iff⟩
              have HCL := Lib.hid (alike_any o o' m d m' d' _ _ wr y1 y2 r2 hr2)
              have HR2 := Lib.hid hr2
              obtain ⟨A, hA⟩ : ∃ q, (cs[i]'hil) = q := ⟨_, rfl⟩
              obtain ⟨B, hB⟩ : ∃ q, (cs'[i]'hil') = q := ⟨_, rfl⟩
              rw [hA] at HNX HEQ HR2
              rw [hB] at HNX HEQ HR2
              have d2 : wr.cell? ⟨c, 2, none⟩ = some (.slice (some ⟨g', p', none⟩) cn cc') := HBB.out.g.c2
              have i0 : (0 : Int) ≤ (i : Int) := by omega
              have i1 : (i : Int) < (cn : Int) := by omega
              clear y1 y2 hr2 hA hB
              have HIL := Lib.hid hil
              have HIL' := Lib.hid hil'
              clear hil hil'
              go_wp2_with fail
              (with_reducible refine HCL.out.mono ?_)
              rintro e w2 ⟨rfl, q⟩
              have HBB := Lib.hid (HBB.out.keep q)
              clear q HCL z1 z2 d2
              cases r2
              · have HE : Hid (false = r) := Lib.hid (by
                  cases r
                  · rfl
                  · have h := HRC.out rfl
                    have := HR2.out.2 (HEQ.out h); cases this)
                go_wp2
                go_returns
                exact ⟨ret_bool HE.out, HBB.out.f.bw⟩
              · have HT2 := Lib.hid (HNX.out.2 (HR2.out.1 rfl))
                clear HT HNX HEQ HR2
                go_wp2
                go_roundw
                case rel => exact ⟨i + 1, by omega, by go_num, HT2, HBB⟩
                case measure => simp [intOf]; omega
            · obtain rfl : cn = i := by omega
              have HCE : Hid (cs = cs') := Lib.hid (by
                have h := HT.out
                rw [List.take_of_length_le (by rw [LC.out]; exact Nat.le_refl _), List.take_of_length_le (by rw [LC'.out]; exact Nat.le_refl _)] at h
                exact h)
              clear HT
              have e3 : wr.cell? ⟨b, 3, none⟩ = some (.slice oo on oc) := HBB.out.f.c3
              go_wp2
              clear e3
              go_loopw [59] (fun ii wr => ∃ i : Nat, i ≤ on ∧ ii = .int .i64 i ∧ Hid (os.take i = os'.take i) ∧ Hid (Fb2 ⟨P, N, co, cn, cc, oo, on, oc, cs, os⟩ ⟨P, N, co', cn, cc', oo', on, oc', cs', os'⟩ w wr b c)) (fun ii _ => on - (intOf ii).toNat)
              case atStart => exact ⟨0, Nat.zero_le _, rfl, Lib.hid rfl, HBB⟩
              case round =>
                obtain ⟨i, hi, rfl, HT, HBB⟩ := hrel
                by_cases ilt : i < on
                · obtain ⟨g, p, rfl, hc⟩ := (show OdAt wr oo on oc os from HBB.out.f.at_.odd).here (by omega)
                  obtain ⟨g', p', rfl, hc'⟩ := (show OdAt wr oo' on oc' os' from HBB.out.g.at_.odd).here (by omega)
                  have hil : i < os.length := by rw [LO.out]; exact ilt
                  have hil' : i < os'.length := by rw [LO'.out]; exact ilt
                  obtain ⟨x1, ⟨o, m, d, z1, y1⟩, w1⟩ := hc i hil
                  obtain ⟨x2, ⟨o', m', d', z2, y2⟩, w2⟩ := hc' i hil'
                  clear w1 w2
                  have HNX := Lib.hid (take_eq (by rw [LO.out, LO'.out]) hil HT.out)
                  have HEQ : Hid (os = os' → (os[i]'hil) = (os'[i]'hil')) := Lib.hid (fun z => by subst z; rfl)
                  have HGE := Lib.hid (gr_eq (a := os[i]'hil) (b := os'[i]'hil'))
                  obtain ⟨r2, hr2⟩ : ∃ r : Bool, r = true ↔ (os[i]'hil).2 = (os'[i]'hil').2 := by classical exact ⟨decide _, decide_eq_true_iff⟩
                  have HCL := Lib.hid (fun W (h : Below wr.heap.size wr W) => alike_any o o' m d m' d' _ _ W (y1.keep h) (y2.keep h) r2 hr2)
                  have HR2 := Lib.hid hr2
                  obtain ⟨A, hA⟩ : ∃ q, (os[i]'hil) = q := ⟨_, rfl⟩
                  obtain ⟨B, hB⟩ : ∃ q, (os'[i]'hil') = q := ⟨_, rfl⟩
                  rw [hA] at x1 HNX HEQ HGE HR2
                  rw [hB] at x2 HNX HEQ HGE HR2
                  obtain ⟨X, L⟩ := A
                  obtain ⟨X', L'⟩ := B
                  simp only at x1 x2
                  have HGE : Hid (((X, L) : Gr) = (X', L') ↔ X = X' ∧ L = L') := HGE
                  have HR2 : Hid (r2 = true ↔ L = L') := HR2
                  have d3 : wr.cell? ⟨c, 3, none⟩ = some (.slice (some ⟨g', p', none⟩) on oc') := HBB.out.g.c3
                  have i0 : (0 : Int) ≤ (i : Int) := by omega
                  have i1 : (i : Int) < (on : Int) := by omega
                  clear hc hc' y1 y2 hr2 hA hB
                  clear hil hil'
                  go_upto_region 12 with fail
                  have KA := Lib.hid ((Below.refl _ wr).alloc (Nat.le_refl _) (.cells #[.int .i64 X, .slice o m d] 52))
                  have u0 := (box_cells wr (.int .i64 X) (.slice o m d) 52).1
                  have u1 := (box_cells wr (.int .i64 X) (.slice o m d) 52).2
                  obtain ⟨bx, hbx⟩ : ∃ q, wr.heap.size = q := ⟨_, rfl⟩
                  generalize hwx : wr.alloc (.cells #[.int .i64 X, .slice o m d] 52) = wx
                  rw [hwx] at KA u0 u1
                  rw [hbx] at u0 u1
                  rw [hbx]
                  have x2 := cell_keep x2 KA.out
                  have z2 := cell_keep z2 KA.out
                  have HBB := Lib.hid (HBB.out.keep KA.out)
                  have HCL := Lib.hid (fun W (h : Below wx.heap.size wx W) => HCL.out W (KA.out.trans (h.mono KA.out.size)))
                  clear KA hwx hbx x1 z1 d3
                  have d3 : wx.cell? ⟨c, 3, none⟩ = some (.slice (some ⟨g', p', none⟩) on oc') := HBB.out.g.c3
                  by_cases q4 : X = X'
                  · subst q4
                    have t4 : (X != X) = false := by simp
                    have HLL : Hid (r2 = true → (X, L) = ((X, L') : Gr)) := Lib.hid (fun h => HGE.out.2 ⟨rfl, HR2.out.1 h⟩)
                    have KP : Hid (∀ W W' (h : Hid (Below wx.heap.size wx W) ∧ W.cell? ⟨bx, 0, none⟩ = some (.int .i64 X) ∧ W.cell? ⟨bx, 1, none⟩ = some (.slice o m d) ∧ W.cell? ⟨c, 3, none⟩ = some (.slice (some ⟨g', p', none⟩) on oc') ∧ W.cell? ⟨g', p' + i * 2, none⟩ = some (.int .i64 X) ∧ W.cell? ⟨g', p' + i * 2 + 1, none⟩ = some (.slice o' m' d')), Below W.heap.size W W' → Hid (Below wx.heap.size wx W') ∧ W'.cell? ⟨bx, 0, none⟩ = some (.int .i64 X) ∧ W'.cell? ⟨bx, 1, none⟩ = some (.slice o m d) ∧ W'.cell? ⟨c, 3, none⟩ = some (.slice (some ⟨g', p', none⟩) on oc') ∧ W'.cell? ⟨g', p' + i * 2, none⟩ = some (.int .i64 X) ∧ W'.cell? ⟨g', p' + i * 2 + 1, none⟩ = some (.slice o' m' d')) := Lib.hid (fun W W' h q => ⟨Lib.hid (h.1.out.trans (q.mono h.1.out.size)), cell_keep h.2.1 q, cell_keep h.2.2.1 q, cell_keep h.2.2.2.1 q, cell_keep h.2.2.2.2.1 q, cell_keep h.2.2.2.2.2 q⟩)
                    have E1 := Lib.hid (fun W (h : Hid (Below wx.heap.size wx W) ∧ W.cell? ⟨bx, 0, none⟩ = some (.int .i64 X) ∧ W.cell? ⟨bx, 1, none⟩ = some (.slice o m d) ∧ W.cell? ⟨c, 3, none⟩ = some (.slice (some ⟨g', p', none⟩) on oc') ∧ W.cell? ⟨g', p' + i * 2, none⟩ = some (.int .i64 X) ∧ W.cell? ⟨g', p' + i * 2 + 1, none⟩ = some (.slice o' m' d')) => HCL.out W h.1.out)
                    have S0 := Lib.hid (KP.out wx wx.drew ⟨Lib.hid (Below.refl _ _), u0, u1, d3, x2, z2⟩ (Below.refl _ wx).drew)
                    clear HGE u0 u1 d3 x2 z2 HCL
                    go_region_held3 (fun W => Hid (Below wx.heap.size wx W) ∧ W.cell? ⟨bx, 0, none⟩ = some (.int .i64 X) ∧ W.cell? ⟨bx, 1, none⟩ = some (.slice o m d) ∧ W.cell? ⟨c, 3, none⟩ = some (.slice (some ⟨g', p', none⟩) on oc') ∧ W.cell? ⟨g', p' + i * 2, none⟩ = some (.int .i64 X) ∧ W.cell? ⟨g', p' + i * 2 + 1, none⟩ = some (.slice o' m' d')) (first | exact S0.out | exact S1.out)
                      ((first
                        | (go_at_call 22; (with_reducible refine (E1.out _ (by assumption)).mono ?_); rintro e w3 ⟨rfl, qq⟩; have S1 := Lib.hid (KP.out _ _ (by assumption) qq))
                        | fail))
                    have HB3 := Lib.hid (HBB.out.keep S1.out.1.out)
                    clear S0 S1 KP E1
                    cases r2
                    · have HE : Hid (false = r) := Lib.hid (by
                        cases r
                        · rfl
                        · have h := HRO.out rfl
                          have h2 := HR2.out.2 (Prod.ext_iff.1 (HEQ.out h)).2
                          cases h2)
                      go_wp2
                      go_returns
                      exact ⟨ret_bool HE.out, HB3.out.f.bw⟩
                    · have HT2 := Lib.hid (HNX.out.2 (HLL.out rfl))
                      clear HT HNX HEQ HR2 HLL
                      go_wp2
                      go_roundw
                      case rel => exact ⟨i + 1, by omega, by go_num, HT2, HB3⟩
                      case measure => simp [intOf]; omega
                  · have t4 : (X != X') = true := by simp; exact q4
                    have HX : Hid (X ≠ X') := Lib.hid q4
                    clear q4
                    go_quiet (fail)
                    have HE : Hid (false = r) := Lib.hid (by
                      cases r
                      · rfl
                      · have h := HRO.out rfl
                        have := (HGE.out.1 (HEQ.out h)).1; exact absurd this HX.out)
                    go_wp2
                    go_returns
                    exact ⟨ret_bool HE.out, below_drewN HBB.out.f.bw _⟩
                · obtain rfl : on = i := by omega
                  have HOE : Hid (os = os') := Lib.hid (by
                    have h := HT.out
                    rw [List.take_of_length_le (by rw [LO.out]; exact Nat.le_refl _), List.take_of_length_le (by rw [LO'.out]; exact Nat.le_refl _)] at h
                    exact h)
                  have HE : Hid (true = r) := Lib.hid (HRY.out HCE.out HOE.out)
                  go_wp2
                  go_returns
                  exact ⟨ret_bool HE.out, HBB.out.f.bw⟩
        · have t3 : ((on : Int) != (on' : Int)) = true := by simp; omega
          have HE : Hid (false = r) := Lib.hid (by
            cases r
            · rfl
            · have h := HR.out.1 rfl
              have h1 := LO.out; have h2 := LO'.out; rw [h.2.2.2] at h1; omega)
          go_wp2
          go_returns
          exact ⟨ret_bool HE.out, HBB.out.f.bw⟩
      · have t2 : ((cn : Int) != (cn' : Int)) = true := by simp; omega
        have HE : Hid (false = r) := Lib.hid (by
          cases r
          · rfl
          · have h := HR.out.1 rfl
            have h1 := LC.out; have h2 := LC'.out; rw [h.2.2.1] at h1; omega)
        go_wp2
        go_returns
        exact ⟨ret_bool HE.out, HBB.out.f.bw⟩
    · have t1 : (N != N') = true := by simp; exact q1
      have HE : Hid (false = r) := Lib.hid (by
        cases r
        · rfl
        · have h := HR.out.1 rfl
          exact absurd h.2.1 q1)
      go_wp2
      go_returns
      exact ⟨ret_bool HE.out, HBB.out.f.bw⟩
  · have t0 : (P != P') = true := by simp; exact q0
    have HE : Hid (false = r) := Lib.hid (by
      cases r
      · rfl
      · have h := HR.out.1 rfl
        exact absurd h.1 q0)
    go_wp2
    go_returns
    exact ⟨ret_bool HE.out, HBB.out.f.bw⟩

set_option maxHeartbeats 1000000 in
theorem right_any2 (F : Fv) (w : World) (hF : F.At w) (r : Bool) (hr : r = true ↔ F.Small ∧ F.Rt) :
    Calls Try.prog 6 #[F.v] w fun e w' => e = .returned (.bool r) ∧ Below w.heap.size w w' := by
  obtain ⟨s1, hs1⟩ : ∃ r : Bool, r = true ↔ F.Small := by classical exact ⟨decide _, decide_eq_true_iff⟩
  obtain ⟨s2, hs2⟩ : ∃ r : Bool, r = true ↔ F.Rt := by classical exact ⟨decide _, decide_eq_true_iff⟩
  have HC1 := Lib.hid (fun W (h : F.At W) => small_any F W h s1 hs1)
  have HC2 := Lib.hid (fun (q : s1 = true) W (h : F.At W) => right_small F W h (hs1.1 q) s2 hs2)
  have HN : Hid (r = (s1 && s2)) := Lib.hid (by
    have h : F.Small ∧ F.Rt ↔ (s1 && s2) = true := by rw [Bool.and_eq_true, hs1, hs2]
    have h2 := hr.trans h
    cases r <;> cases hq : (s1 && s2) <;> simp_all)
  clear hr hs1 hs2
  obtain ⟨P, N, co, cn, cc, oo, on, oc, cs, os⟩ := F
  have LC : Hid (cs.length = cn) := Lib.hid hF.core.len
  have LO : Hid (os.length = on) := Lib.hid hF.odd.len
  have hmc : cn ≤ 9223372036854775807 := Nat.le_trans hF.core.le hF.core.top
  have hmo : on ≤ 9223372036854775807 := Nat.le_trans hF.odd.le hF.odd.top
  obtain ⟨b, hb⟩ : ∃ b, w.heap.size = b := ⟨_, rfl⟩
  obtain ⟨wb, hwb⟩ : ∃ wb, w.alloc (.cells #[.int .i64 P, .int .i64 N, .slice co cn cc, .slice oo on oc] 25) = wb := ⟨_, rfl⟩
  have HBB : Hid (Fbox ⟨P, N, co, cn, cc, oo, on, oc, cs, os⟩ w wb b) := Lib.hid (by rw [← hwb, ← hb]; exact fbox_new hF)
  clear hF
  show Calls Try.prog 6 #[.agg #[.int .i64 P, .int .i64 N, .slice co cn cc, .slice oo on oc]] w _
  go_enter Try.func6, Try.ntmps6
  go_upto_region 1 with fail
  clear hwb hb
  have e0 : wb.cell? ⟨b, 0, none⟩ = some (.int .i64 P) := HBB.out.c0
  have e1 : wb.cell? ⟨b, 1, none⟩ = some (.int .i64 N) := HBB.out.c1
  have e2 : wb.cell? ⟨b, 2, none⟩ = some (.slice co cn cc) := HBB.out.c2
  have e3 : wb.cell? ⟨b, 3, none⟩ = some (.slice oo on oc) := HBB.out.c3
  have HC1 : Hid (∀ W, Fv.At ⟨P, N, co, cn, cc, oo, on, oc, cs, os⟩ W → Calls Try.prog 17 #[.agg #[.int .i64 P, .int .i64 N, .slice co cn cc, .slice oo on oc]] W fun e w' => e = .returned (.bool s1) ∧ Below W.heap.size W w') := HC1
  have HC2 : Hid (s1 = true → ∀ W, Fv.At ⟨P, N, co, cn, cc, oo, on, oc, cs, os⟩ W → Calls Try.prog 18 #[.agg #[.int .i64 P, .int .i64 N, .slice co cn cc, .slice oo on oc]] W fun e w' => e = .returned (.int .i64 (rcode s2)) ∧ Below W.heap.size W w') := HC2
  cases s1
  · have HE : Hid (false = r) := Lib.hid (by rw [HN.out]; rfl)
    go_wp2_with fail
    (with_reducible refine (HC1.out _ HBB.out.at_).mono ?_)
    rintro e w2 ⟨rfl, q⟩
    have HBB := Lib.hid (HBB.out.keep q)
    clear q e0 e1 e2 e3 HN
    go_wp2
    go_returns
    exact ⟨ret_bool HE.out, HBB.out.bw⟩
  · go_wp2_with fail
    (with_reducible refine (HC1.out _ HBB.out.at_).mono ?_)
    rintro e w2 ⟨rfl, q⟩
    have HBB := Lib.hid (HBB.out.keep q)
    clear q e0 e1 e2 e3
    have e0 : w2.cell? ⟨b, 0, none⟩ = some (.int .i64 P) := HBB.out.c0
    have e1 : w2.cell? ⟨b, 1, none⟩ = some (.int .i64 N) := HBB.out.c1
    have e2 : w2.cell? ⟨b, 2, none⟩ = some (.slice co cn cc) := HBB.out.c2
    have e3 : w2.cell? ⟨b, 3, none⟩ = some (.slice oo on oc) := HBB.out.c3
    go_wp2_with fail
    (with_reducible refine (HC2.out (by first | rfl | trivial) _ HBB.out.at_).mono ?_)
    rintro e w3 ⟨rfl, q⟩
    have HBB := Lib.hid (HBB.out.keep q)
    clear q e0 e1 e2 e3
    cases s2
    · have HE : Hid (false = r) := Lib.hid (by rw [HN.out]; rfl)
      have t1 : (rcode false == 0) = false := by decide
      clear HN
      go_wp2
      go_returns
      exact ⟨ret_bool HE.out, HBB.out.bw⟩
    · have HE : Hid (true = r) := Lib.hid (by rw [HN.out]; rfl)
      have t1 : (rcode true == 0) = true := by decide
      clear HN
      go_wp2
      go_returns
      exact ⟨ret_bool HE.out, HBB.out.bw⟩

theorem full_of {F : Fv} (rt : F.Rt) (hl : F.cs.length = F.cn) : Full F.cs F.N ∨ F.cs = [] := meas_full rt.meas hl
theorem own_len {G : Fv} {w : World} {B : Nat} (h : G.Own w B) : G.cs.length = G.cn ∧ G.os.length = G.on := ⟨h.at_.core.len, h.at_.odd.len⟩
/-- What is shifted has the sets of its indexes. -/
theorem sh_gr {F K G : Fv} {m : Int} (s : ShK F K m) (c : IsCan K G) (rt : F.Rt) (hl : F.cs.length = F.cn) (x : Int) : gr G x = gr F (x - m) := by
  have f1 := full_of rt hl
  have f2 : Full K.cs K.N ∨ K.cs = [] := by
    rw [s.1.2.2.1, s.1.2.1]
    rcases f1 with h | h
    · exact .inl (sh_full h)
    · exact .inr (by rw [h]; rfl)
  have o2 : K.os.Pairwise (fun a b => a.1 < b.1) := by rw [s.1.2.2.2]; exact sh_pair rt.odd.inc m
  rw [can_gr c f2 o2, gr_sh f1 s.1]
theorem sh_full2 {F K : Fv} {m : Int} (s : ShK F K m) (f1 : Full F.cs F.N ∨ F.cs = []) : Full K.cs K.N ∨ K.cs = [] := by
  rw [s.1.2.2.1, s.1.2.1]
  rcases f1 with h | h
  · exact .inl (sh_full h)
  · exact .inr (by rw [h]; rfl)
/-- Shifted, and back: the canonical form. -/
theorem sh_back {F K G K2 G2 M : Fv} {m : Int} (s : ShK F K m) (c : IsCan K G) (s2 : ShK G K2 (-m)) (c2 : IsCan K2 G2) (cm : IsCan F M) (rt : F.Rt) (rk : K.Rt) (hl : F.cs.length = F.cn) (hk : K.cs.length = K.cn) (lg : G.cs.length = G.cn) : G2.P = M.P ∧ G2.N = M.N ∧ G2.cs = M.cs ∧ G2.os = M.os := by
  have rg : G.Rt := can_rt c rk hk
  have f1 := full_of rt hl
  have fk := full_of rk hk
  have fg := full_of rg lg
  have f2 := sh_full2 s2 fg
  have o2 : K2.os.Pairwise (fun a b => a.1 < b.1) := by rw [s2.1.2.2.2]; exact sh_pair rg.odd.inc _
  have e : ∀ i, cg K2.cs K2.P K2.N i = cg F.cs F.P F.N i := fun i => by
    rw [s2.1.2.2.1, s2.1.1, s2.1.2.1, cg_sh fg, show cg G.cs G.P G.N (i - -m) = cg K.cs K.P K.N (i - -m) by rw [c.cs, c.P, c.N]; exact can_core fk c.turn _, s.1.2.2.1, s.1.1, s.1.2.1, cg_sh f1]
    congr 1; omega
  have eg : ∀ i, gr K2 i = gr F i := fun i => by
    rw [gr_sh fg s2.1, sh_gr s c rt hl]
    congr 1; omega
  exact can_unique c2 cm f2 f1 o2 rt.odd.inc e (fun i _ => eg i)
end Go.Proofs.Ytmjapbjjfhmohaa
