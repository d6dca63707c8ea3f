/- Contract: AlikeForms. -/
import Derived.Test.YtkhnoikdfelheaaC2
import Derived.Deep.RegionHeld3
namespace Go.Proofs.Ytkhnoikdfelheaa
set_option linter.unusedVariables false
set_option linter.unusedSimpArgs false
open Go.ChangeShapes Go.WideShapes Go.ChangeAt Go.RowKit
/-- Two forms in two boxes. -/
structure Fb2 (F G : Fv) (w0 w : World) (b c : Nat) : Prop where
  f : Fbox F w0 w b
  g : Fbox G w0 w c
theorem Fb2.keep {F G : Fv} {w0 w w' : World} {b c : Nat} (h : Fb2 F G w0 w b c) (k : Below w.heap.size w w') : Fb2 F G w0 w' b c := ⟨h.f.keep k, h.g.keep k⟩
theorem fb2_new {F G : Fv} {w : World} (h : F.At w) (h' : G.At w) : Fb2 F G w ((w.alloc (.cells F.box 25)).alloc (.cells G.box 25)) w.heap.size (w.heap.size + 1) := by
  have a := fbox_new h
  have k := (Below.refl _ (w.alloc (.cells F.box 25))).alloc (Nat.le_refl _) (.cells G.box 25)
  have q := fbox_new (h'.keep a.bw)
  have e : (w.alloc (.cells F.box 25)).heap.size = w.heap.size + 1 := by simp
  rw [e] at q
  exact ⟨a.keep k, q.at_, q.c0, q.c1, q.c2, q.c3, (a.keep k).bw⟩
def SameF (F G : Fv) : Prop := F.P = G.P ∧ F.N = G.N ∧ F.cs = G.cs ∧ F.os = G.os
theorem gr_eq {a b : Gr} : a = b ↔ a.1 = b.1 ∧ a.2 = b.2 := Prod.ext_iff
theorem take_eq {α : Type} {a b : List α} (h : a.length = b.length) {k : Nat} (hk : k < a.length) (e : a.take k = b.take k) : a.take (k + 1) = b.take (k + 1) ↔ a[k] = b[k]'(by omega) := by
  have hk' : k < b.length := by omega
  rw [List.take_succ_eq_append_getElem hk, List.take_succ_eq_append_getElem hk', e]
  exact ⟨fun h => List.singleton_inj.1 (List.append_cancel_left h), fun h => by rw [h]⟩
set_option maxRecDepth 8000 in
set_option maxHeartbeats 4000000 in
theorem alikeForms_any (F G : Fv) (w : World) (hF : F.At w) (hG : G.At w) (r : Bool) (hr : r = true ↔ SameF F G) :
    Calls Try.prog 13 #[F.v, G.v] w fun e w' => e = .returned (.bool r) ∧ Below w.heap.size w w' := by
  have HR := Lib.hid hr
  clear hr
  obtain ⟨P, N, co, cn, cc, oo, on, oc, cs, os⟩ := F
  obtain ⟨P', N', co', cn', cc', oo', on', oc', cs', os'⟩ := G
  have LC : Hid (cs.length = cn) := Lib.hid hF.core.len
  have LO : Hid (os.length = on) := Lib.hid hF.odd.len
  have LC' : Hid (cs'.length = cn') := Lib.hid hG.core.len
  have LO' : Hid (os'.length = on') := Lib.hid hG.odd.len
  have hmc : cn ≤ 9223372036854775807 := Nat.le_trans hF.core.le hF.core.top
  have hmo : on ≤ 9223372036854775807 := Nat.le_trans hF.odd.le hF.odd.top
  have hmc' : cn' ≤ 9223372036854775807 := Nat.le_trans hG.core.le hG.core.top
  have hmo' : on' ≤ 9223372036854775807 := Nat.le_trans hG.odd.le hG.odd.top
  have HR : Hid (r = true ↔ P = P' ∧ N = N' ∧ cs = cs' ∧ os = os') := HR
  obtain ⟨b, hb⟩ : ∃ b, w.heap.size = b := ⟨_, rfl⟩
  obtain ⟨c, hc⟩ : ∃ c, b + 1 = c := ⟨_, rfl⟩
  obtain ⟨wb, hwb⟩ : ∃ wb, (w.alloc (.cells #[.int .i64 P, .int .i64 N, .slice co cn cc, .slice oo on oc] 25)).alloc (.cells #[.int .i64 P', .int .i64 N', .slice co' cn' cc', .slice oo' on' oc'] 25) = wb := ⟨_, rfl⟩
  have HBB : Hid (Fb2 ⟨P, N, co, cn, cc, oo, on, oc, cs, os⟩ ⟨P', N', co', cn', cc', oo', on', oc', cs', os'⟩ w wb b c) := Lib.hid (by rw [← hwb, ← hc, ← hb]; exact fb2_new hF hG)
  clear hF hG
  show Calls Try.prog 13 #[.agg #[.int .i64 P, .int .i64 N, .slice co cn cc, .slice oo on oc], .agg #[.int .i64 P', .int .i64 N', .slice co' cn' cc', .slice oo' on' oc']] w _
  go_enter Try.func13, Try.ntmps13
  go_upto_region 1 with fail
  clear hwb hb hc
  have e0 : wb.cell? ⟨b, 0, none⟩ = some (.int .i64 P) := HBB.out.f.c0
  have e1 : wb.cell? ⟨b, 1, none⟩ = some (.int .i64 N) := HBB.out.f.c1
  have e2 : wb.cell? ⟨b, 2, none⟩ = some (.slice co cn cc) := HBB.out.f.c2
  have e3 : wb.cell? ⟨b, 3, none⟩ = some (.slice oo on oc) := HBB.out.f.c3
  have d0 : wb.cell? ⟨c, 0, none⟩ = some (.int .i64 P') := HBB.out.g.c0
  have d1 : wb.cell? ⟨c, 1, none⟩ = some (.int .i64 N') := HBB.out.g.c1
  have d2 : wb.cell? ⟨c, 2, none⟩ = some (.slice co' cn' cc') := HBB.out.g.c2
  have d3 : wb.cell? ⟨c, 3, none⟩ = some (.slice oo' on' oc') := HBB.out.g.c3
  by_cases q0 : P = P'
  · have t0 : (P != P') = false := by simp; exact q0
    by_cases q1 : N = N'
    · have t1 : (N != N') = false := by simp; exact q1
      by_cases q2 : cn = cn'
      · have t2 : ((cn : Int) != (cn' : Int)) = false := by simp; omega
        by_cases q3 : on = on'
        · have t3 : ((on : Int) != (on' : Int)) = false := by simp; omega
          subst q0 q1 q2 q3
          have HRC : Hid (r = true → cs = cs') := Lib.hid (fun h => (HR.out.1 h).2.2.1)
          have HRO : Hid (r = true → os = os') := Lib.hid (fun h => (HR.out.1 h).2.2.2)
          have HRY : Hid (cs = cs' → os = os' → true = r) := Lib.hid (fun h1 h2 => (HR.out.2 ⟨rfl, rfl, h1, h2⟩).symm)
          clear HR
          go_wp2
          clear e0 e1 e2 e3 d0 d1 d2 d3
          clear t0 t1 t2 t3
          go_loopw [42] (fun ii wr => ∃ i : Nat, i ≤ cn ∧ ii = .int .i64 i ∧ Hid (cs.take i = cs'.take i) ∧ Hid (Fb2 ⟨P, N, co, cn, cc, oo, on, oc, cs, os⟩ ⟨P, N, co', cn, cc', oo', on, oc', cs', os'⟩ w wr b c)) (fun ii _ => cn - (intOf ii).toNat)
          case atStart => exact ⟨0, Nat.zero_le _, rfl, Lib.hid rfl, HBB⟩
          case round =>
            obtain ⟨i, hi, rfl, HT, HBB⟩ := hrel
            by_cases ilt : i < cn
            · obtain ⟨g, p, rfl, hc⟩ := (show CoAt wr co cn cc cs from HBB.out.f.at_.core).here (by omega)
              obtain ⟨g', p', rfl, hc'⟩ := (show CoAt wr co' cn cc' cs' from HBB.out.g.at_.core).here (by omega)
              have hil : i < cs.length := by rw [LC.out]; exact ilt
              have hil' : i < cs'.length := by rw [LC'.out]; exact ilt
              obtain ⟨o, m, d, z1, y1⟩ := hc i hil
              obtain ⟨o', m', d', z2, y2⟩ := hc' i hil'
              clear hc hc'
              have HNX := Lib.hid (take_eq (by rw [LC.out, LC'.out]) hil HT.out)
              have HEQ : Hid (cs = cs' → (cs[i]'hil) = (cs'[i]'hil')) := Lib.hid (fun z => by subst z; rfl)
              obtain ⟨r2, hr2⟩ : ∃ r : Bool, r = true ↔ (cs[i]'hil) = (cs'[i]'hil') := by classical exact ⟨decide _, decide_eq_true_iff⟩
              have HCL := Lib.hid (alike_any o o' m d m' d' _ _ wr y1 y2 r2 hr2)
              have HR2 := Lib.hid hr2
              obtain ⟨A, hA⟩ : ∃ q, (cs[i]'hil) = q := ⟨_, rfl⟩
              obtain ⟨B, hB⟩ : ∃ q, (cs'[i]'hil') = q := ⟨_, rfl⟩
              rw [hA] at HNX HEQ HR2
              rw [hB] at HNX HEQ HR2
              have d2 : wr.cell? ⟨c, 2, none⟩ = some (.slice (some ⟨g', p', none⟩) cn cc') := HBB.out.g.c2
              have i0 : (0 : Int) ≤ (i : Int) := by omega
              have i1 : (i : Int) < (cn : Int) := by omega
              clear y1 y2 hr2 hA hB
              have HIL := Lib.hid hil
              have HIL' := Lib.hid hil'
              clear hil hil'
              go_wp2_with fail
              (with_reducible refine HCL.out.mono ?_)
              rintro e w2 ⟨rfl, q⟩
              have HBB := Lib.hid (HBB.out.keep q)
              clear q HCL z1 z2 d2
              cases r2
              · have HE : Hid (false = r) := Lib.hid (by
                  cases r
                  · rfl
                  · have h := HRC.out rfl
                    have := HR2.out.2 (HEQ.out h); cases this)
                go_wp2
                go_returns
                exact ⟨ret_bool HE.out, HBB.out.f.bw⟩
              · have HT2 := Lib.hid (HNX.out.2 (HR2.out.1 rfl))
                clear HT HNX HEQ HR2
                go_wp2
                go_roundw
                case rel => exact ⟨i + 1, by omega, by go_num, HT2, HBB⟩
                case measure => simp [intOf]; omega
            · obtain rfl : cn = i := by omega
              have HCE : Hid (cs = cs') := Lib.hid (by
                have h := HT.out
                rw [List.take_of_length_le (by rw [LC.out]; exact Nat.le_refl _), List.take_of_length_le (by rw [LC'.out]; exact Nat.le_refl _)] at h
                exact h)
              clear HT
              have e3 : wr.cell? ⟨b, 3, none⟩ = some (.slice oo on oc) := HBB.out.f.c3
              go_wp2
              clear e3
              go_loopw [59] (fun ii wr => ∃ i : Nat, i ≤ on ∧ ii = .int .i64 i ∧ Hid (os.take i = os'.take i) ∧ Hid (Fb2 ⟨P, N, co, cn, cc, oo, on, oc, cs, os⟩ ⟨P, N, co', cn, cc', oo', on, oc', cs', os'⟩ w wr b c)) (fun ii _ => on - (intOf ii).toNat)
              case atStart => exact ⟨0, Nat.zero_le _, rfl, Lib.hid rfl, HBB⟩
              case round =>
                obtain ⟨i, hi, rfl, HT, HBB⟩ := hrel
                by_cases ilt : i < on
                · obtain ⟨g, p, rfl, hc⟩ := (show OdAt wr oo on oc os from HBB.out.f.at_.odd).here (by omega)
                  obtain ⟨g', p', rfl, hc'⟩ := (show OdAt wr oo' on oc' os' from HBB.out.g.at_.odd).here (by omega)
                  have hil : i < os.length := by rw [LO.out]; exact ilt
                  have hil' : i < os'.length := by rw [LO'.out]; exact ilt
                  obtain ⟨x1, ⟨o, m, d, z1, y1⟩, w1⟩ := hc i hil
                  obtain ⟨x2, ⟨o', m', d', z2, y2⟩, w2⟩ := hc' i hil'
                  clear w1 w2
                  have HNX := Lib.hid (take_eq (by rw [LO.out, LO'.out]) hil HT.out)
                  have HEQ : Hid (os = os' → (os[i]'hil) = (os'[i]'hil')) := Lib.hid (fun z => by subst z; rfl)
                  have HGE := Lib.hid (gr_eq (a := os[i]'hil) (b := os'[i]'hil'))
                  obtain ⟨r2, hr2⟩ : ∃ r : Bool, r = true ↔ (os[i]'hil).2 = (os'[i]'hil').2 := by classical exact ⟨decide _, decide_eq_true_iff⟩
                  have HCL := Lib.hid (fun W (h : Below wr.heap.size wr W) => alike_any o o' m d m' d' _ _ W (y1.keep h) (y2.keep h) r2 hr2)
                  have HR2 := Lib.hid hr2
                  obtain ⟨A, hA⟩ : ∃ q, (os[i]'hil) = q := ⟨_, rfl⟩
                  obtain ⟨B, hB⟩ : ∃ q, (os'[i]'hil') = q := ⟨_, rfl⟩
                  rw [hA] at x1 HNX HEQ HGE HR2
                  rw [hB] at x2 HNX HEQ HGE HR2
                  obtain ⟨X, L⟩ := A
                  obtain ⟨X', L'⟩ := B
                  simp only at x1 x2
                  have HGE : Hid (((X, L) : Gr) = (X', L') ↔ X = X' ∧ L = L') := HGE
                  have HR2 : Hid (r2 = true ↔ L = L') := HR2
                  have d3 : wr.cell? ⟨c, 3, none⟩ = some (.slice (some ⟨g', p', none⟩) on oc') := HBB.out.g.c3
                  have i0 : (0 : Int) ≤ (i : Int) := by omega
                  have i1 : (i : Int) < (on : Int) := by omega
                  clear hc hc' y1 y2 hr2 hA hB
                  clear hil hil'
                  go_upto_region 12 with fail
                  have KA := Lib.hid ((Below.refl _ wr).alloc (Nat.le_refl _) (.cells #[.int .i64 X, .slice o m d] 43))
                  have u0 := (box_cells wr (.int .i64 X) (.slice o m d) 43).1
                  have u1 := (box_cells wr (.int .i64 X) (.slice o m d) 43).2
                  obtain ⟨bx, hbx⟩ : ∃ q, wr.heap.size = q := ⟨_, rfl⟩
                  generalize hwx : wr.alloc (.cells #[.int .i64 X, .slice o m d] 43) = wx
                  rw [hwx] at KA u0 u1
                  rw [hbx] at u0 u1
                  rw [hbx]
                  have x2 := cell_keep x2 KA.out
                  have z2 := cell_keep z2 KA.out
                  have HBB := Lib.hid (HBB.out.keep KA.out)
                  have HCL := Lib.hid (fun W (h : Below wx.heap.size wx W) => HCL.out W (KA.out.trans (h.mono KA.out.size)))
                  clear KA hwx hbx x1 z1 d3
                  have d3 : wx.cell? ⟨c, 3, none⟩ = some (.slice (some ⟨g', p', none⟩) on oc') := HBB.out.g.c3
                  by_cases q4 : X = X'
                  · subst q4
                    have t4 : (X != X) = false := by simp
                    have HLL : Hid (r2 = true → (X, L) = ((X, L') : Gr)) := Lib.hid (fun h => HGE.out.2 ⟨rfl, HR2.out.1 h⟩)
                    have KP : Hid (∀ W W' (h : Hid (Below wx.heap.size wx W) ∧ W.cell? ⟨bx, 0, none⟩ = some (.int .i64 X) ∧ W.cell? ⟨bx, 1, none⟩ = some (.slice o m d) ∧ W.cell? ⟨c, 3, none⟩ = some (.slice (some ⟨g', p', none⟩) on oc') ∧ W.cell? ⟨g', p' + i * 2, none⟩ = some (.int .i64 X) ∧ W.cell? ⟨g', p' + i * 2 + 1, none⟩ = some (.slice o' m' d')), Below W.heap.size W W' → Hid (Below wx.heap.size wx W') ∧ W'.cell? ⟨bx, 0, none⟩ = some (.int .i64 X) ∧ W'.cell? ⟨bx, 1, none⟩ = some (.slice o m d) ∧ W'.cell? ⟨c, 3, none⟩ = some (.slice (some ⟨g', p', none⟩) on oc') ∧ W'.cell? ⟨g', p' + i * 2, none⟩ = some (.int .i64 X) ∧ W'.cell? ⟨g', p' + i * 2 + 1, none⟩ = some (.slice o' m' d')) := Lib.hid (fun W W' h q => ⟨Lib.hid (h.1.out.trans (q.mono h.1.out.size)), cell_keep h.2.1 q, cell_keep h.2.2.1 q, cell_keep h.2.2.2.1 q, cell_keep h.2.2.2.2.1 q, cell_keep h.2.2.2.2.2 q⟩)
                    have E1 := Lib.hid (fun W (h : Hid (Below wx.heap.size wx W) ∧ W.cell? ⟨bx, 0, none⟩ = some (.int .i64 X) ∧ W.cell? ⟨bx, 1, none⟩ = some (.slice o m d) ∧ W.cell? ⟨c, 3, none⟩ = some (.slice (some ⟨g', p', none⟩) on oc') ∧ W.cell? ⟨g', p' + i * 2, none⟩ = some (.int .i64 X) ∧ W.cell? ⟨g', p' + i * 2 + 1, none⟩ = some (.slice o' m' d')) => HCL.out W h.1.out)
                    have S0 := Lib.hid (KP.out wx wx.drew ⟨Lib.hid (Below.refl _ _), u0, u1, d3, x2, z2⟩ (Below.refl _ wx).drew)
                    clear HGE u0 u1 d3 x2 z2 HCL
                    go_region_held3 (fun W => Hid (Below wx.heap.size wx W) ∧ W.cell? ⟨bx, 0, none⟩ = some (.int .i64 X) ∧ W.cell? ⟨bx, 1, none⟩ = some (.slice o m d) ∧ W.cell? ⟨c, 3, none⟩ = some (.slice (some ⟨g', p', none⟩) on oc') ∧ W.cell? ⟨g', p' + i * 2, none⟩ = some (.int .i64 X) ∧ W.cell? ⟨g', p' + i * 2 + 1, none⟩ = some (.slice o' m' d')) (first | exact S0.out | exact S1.out)
                      ((first
                        | (go_at_call 33; (with_reducible refine (E1.out _ (by assumption)).mono ?_); rintro e w3 ⟨rfl, qq⟩; have S1 := Lib.hid (KP.out _ _ (by assumption) qq))
                        | fail))
                    have HB3 := Lib.hid (HBB.out.keep S1.out.1.out)
                    clear S0 S1 KP E1
                    cases r2
                    · have HE : Hid (false = r) := Lib.hid (by
                        cases r
                        · rfl
                        · have h := HRO.out rfl
                          have h2 := HR2.out.2 (Prod.ext_iff.1 (HEQ.out h)).2
                          cases h2)
                      go_wp2
                      go_returns
                      exact ⟨ret_bool HE.out, HB3.out.f.bw⟩
                    · have HT2 := Lib.hid (HNX.out.2 (HLL.out rfl))
                      clear HT HNX HEQ HR2 HLL
                      go_wp2
                      go_roundw
                      case rel => exact ⟨i + 1, by omega, by go_num, HT2, HB3⟩
                      case measure => simp [intOf]; omega
                  · have t4 : (X != X') = true := by simp; exact q4
                    have HX : Hid (X ≠ X') := Lib.hid q4
                    clear q4
                    go_quiet (fail)
                    have HE : Hid (false = r) := Lib.hid (by
                      cases r
                      · rfl
                      · have h := HRO.out rfl
                        have := (HGE.out.1 (HEQ.out h)).1; exact absurd this HX.out)
                    go_wp2
                    go_returns
                    exact ⟨ret_bool HE.out, below_drewN HBB.out.f.bw _⟩
                · obtain rfl : on = i := by omega
                  have HOE : Hid (os = os') := Lib.hid (by
                    have h := HT.out
                    rw [List.take_of_length_le (by rw [LO.out]; exact Nat.le_refl _), List.take_of_length_le (by rw [LO'.out]; exact Nat.le_refl _)] at h
                    exact h)
                  have HE : Hid (true = r) := Lib.hid (HRY.out HCE.out HOE.out)
                  go_wp2
                  go_returns
                  exact ⟨ret_bool HE.out, HBB.out.f.bw⟩
        · have t3 : ((on : Int) != (on' : Int)) = true := by simp; omega
          have HE : Hid (false = r) := Lib.hid (by
            cases r
            · rfl
            · have h := HR.out.1 rfl
              have h1 := LO.out; have h2 := LO'.out; rw [h.2.2.2] at h1; omega)
          go_wp2
          go_returns
          exact ⟨ret_bool HE.out, HBB.out.f.bw⟩
      · have t2 : ((cn : Int) != (cn' : Int)) = true := by simp; omega
        have HE : Hid (false = r) := Lib.hid (by
          cases r
          · rfl
          · have h := HR.out.1 rfl
            have h1 := LC.out; have h2 := LC'.out; rw [h.2.2.1] at h1; omega)
        go_wp2
        go_returns
        exact ⟨ret_bool HE.out, HBB.out.f.bw⟩
    · have t1 : (N != N') = true := by simp; exact q1
      have HE : Hid (false = r) := Lib.hid (by
        cases r
        · rfl
        · have h := HR.out.1 rfl
          exact absurd h.2.1 q1)
      go_wp2
      go_returns
      exact ⟨ret_bool HE.out, HBB.out.f.bw⟩
  · have t0 : (P != P') = true := by simp; exact q0
    have HE : Hid (false = r) := Lib.hid (by
      cases r
      · rfl
      · have h := HR.out.1 rfl
        exact absurd h.1 q0)
    go_wp2
    go_returns
    exact ⟨ret_bool HE.out, HBB.out.f.bw⟩
end Go.Proofs.Ytkhnoikdfelheaa
