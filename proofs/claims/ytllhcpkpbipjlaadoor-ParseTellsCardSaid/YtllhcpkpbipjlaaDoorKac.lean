/- Z3, Z4 in one. -/
import Derived.Test.YtllhcpkpbipjlaaDoorKab
namespace Go.Proofs.YtllhcpkpbipjlaaDoor
set_option linter.unusedVariables false
set_option linter.unusedSimpArgs false
open Go.ChangeShapes Go.WideShapes Go.ChangeAt Go.RowKit
abbrev M64 : Nat := 18446744073709551615
theorem pum_le : ∀ (l : List UInt8) (u v : Nat), Lib.parseUintM M64 u l = .ok v → u ≤ v
  | [], u, v, h => by
    unfold Lib.parseUintM at h
    injection h with h; omega
  | c :: l, u, v, h => by
    rw [Lib.parseUintM] at h
    split at h
    · split at h
      · cases h
      · split at h
        · cases h
        · have := pum_le l _ v h; omega
    · cases h
theorem pum_big {c : UInt8} {l : List UInt8} {u v : Nat} (hu : 922337203685477580 < u) (h : Lib.parseUintM M64 u (c :: l) = .ok v) : 9223372036854775808 < v := by
  rw [Lib.parseUintM] at h
  split at h
  · split at h
    · cases h
    · split at h
      · cases h
      · have := pum_le l _ v h; omega
  · cases h
theorem pum_step {c : UInt8} {l : List UInt8} {u : Nat} (hu : u ≤ 922337203685477580) (hc : Lx.dgt c = true) : Lib.parseUintM M64 u (c :: l) = Lib.parseUintM M64 (u * 10 + (c.toNat - 48)) l := by
  have hc := of_decide_eq_true hc
  rw [Lib.parseUintM, if_pos (by omega), if_neg (by omega), if_neg (by have : M64 = 18446744073709551615 := rfl; omega)]
theorem pum_syn {c : UInt8} {l : List UInt8} {u : Nat} (hc : Lx.dgt c = false) : Lib.parseUintM M64 u (c :: l) = .syntax := by
  have hc : ¬ (48 ≤ c.toNat ∧ c.toNat ≤ 57) := of_decide_eq_false hc
  rw [Lib.parseUintM, if_neg (by omega)]
/-- The number that a whole text is. -/
def numR (t : List UInt8) : Option Int := if Lx.body t = [] ∨ ((Lx.body t)[0]? = some 48 ∧ (1 < (Lx.body t).length ∨ (Lx.body t).length < t.length)) then none else piOf t
theorem pi_neg (d : List UInt8) (hd : d ≠ []) : piOf (45 :: d) = match Lib.parseUintM M64 0 d with
    | .ok u => if u ≤ 9223372036854775808 then some (-(u : Int)) else none
    | _ => none := by
  unfold piOf Lib.parseIntB
  dsimp only
  rw [if_pos (.inr rfl)]
  unfold Lib.parseUintB
  rw [if_neg hd, show (2 ^ 64 - 1 : Nat) = M64 from rfl]
  cases Lib.parseUintM M64 0 d with
  | «syntax» => rfl
  | range => rfl
  | ok u =>
    dsimp only
    rw [if_neg (by intro h; exact h.1 rfl)]
    by_cases h : u ≤ 9223372036854775808
    · rw [if_neg (by intro z; have := z.2; omega), if_pos (show UInt8.toNat 45 = 45 from rfl), if_pos h]
    · rw [if_pos ⟨rfl, by omega⟩, if_neg h]
theorem pi_pos (c : UInt8) (r : List UInt8) (h1 : c.toNat ≠ 45) (h2 : c.toNat ≠ 43) : piOf (c :: r) = match Lib.parseUintM M64 0 (c :: r) with
    | .ok u => if u ≤ 9223372036854775807 then some (u : Int) else none
    | _ => none := by
  unfold piOf Lib.parseIntB
  dsimp only
  rw [if_neg (by omega)]
  unfold Lib.parseUintB
  rw [if_neg (by simp), show (2 ^ 64 - 1 : Nat) = M64 from rfl]
  cases Lib.parseUintM M64 0 (c :: r) with
  | «syntax» => rfl
  | range => rfl
  | ok u =>
    dsimp only
    by_cases h : u ≤ 9223372036854775807
    · rw [if_neg (by intro z; have := z.2; omega), if_neg (by intro z; exact h1 z.1), if_neg h1, if_pos h]
    · rw [if_pos ⟨h1, by omega⟩, if_neg h]
/-- What the walk tells of a text's digits. -/
structure NumIs (t : List UInt8) (v : Int) (ok : Bool) : Prop where
  yes : ok = true → numR t = some v
  no : ok = false → numR t = none
def NumRet (t : List UInt8) (e : Ending) : Prop := ∃ (v : Int) (ok : Bool), e = .returned (.tuple #[.int .i64 v, .bool ok]) ∧ NumIs t v ok
set_option maxHeartbeats 4000000 in
theorem rnumber10 (s : ByteArray) (w : World) (h0 : 0 < s.size) (hs : s.size ≤ 1000) (h43 : s[0].toNat ≠ 43) : Calls Tryd.prog 65 #[.string s] w fun e w' => NumRet s.data.toList e ∧ w = w' := by
  have hd0 := drop_at s 0 h0
  rw [List.drop_zero] at hd0
  have h0' : (0 : Int) < s.size := by omega
  by_cases hm : s[0].toNat = 45
  · have hm' : (((s[0]).toNat : Int) == 45) = true := by simp; omega
    have h45 : s[0] = 45 := UInt8.toNat_inj.1 hm
    obtain ⟨d, hd⟩ : ∃ d, s.extract 1 s.size = d := ⟨_, rfl⟩
    have hdl : d.data.toList = s.data.toList.drop 1 := by
      rw [← hd, Lib.extract_data, List.take_of_length_le]; rw [List.length_drop, ← Lib.size_eq]; omega
    have hds : d.size + 1 = s.size := by rw [Lib.size_eq d, hdl, List.length_drop, ← Lib.size_eq]; omega
    have hbody : Lx.body s.data.toList = d.data.toList := by
      rw [hd0, h45, hdl]; rfl
    have hn45 : ((45 : UInt8).toNat : Int) = 45 := rfl
    by_cases hd1 : d.size = 0
    · have hnil : d.data.toList = [] := List.length_eq_zero_iff.1 (by rw [← Lib.size_eq]; exact hd1)
      have hie : d.toList.isEmpty = true := by rw [ByteArray.toList_eq, hnil]; rfl
      have hne : d.toList = [] := by rw [ByteArray.toList_eq, hnil]
      have HNO : Hid (numR s.data.toList = none) := Lib.hid (by unfold numR; rw [hbody, if_pos (.inl hnil)])
      clear hbody hdl hd0 hnil h45
      go_enter Tryd.func65, Tryd.ntmps65
      go_wp2
      go_returns
      exact ⟨⟨_, _, rfl, ⟨(fun h => by cases h), fun _ => HNO.out⟩⟩, rfl⟩
    · have hdp : 0 < d.size := by omega
      have hdp' : (0 : Int) < d.size := by omega
      have hs1 : (1 : Int) ≤ s.size := by omega
      have hdz := drop_at d 0 hdp
      rw [List.drop_zero] at hdz
      have HS : Hid (d.data.toList ≠ []) := Lib.hid (by rw [hdz]; simp)
      have hne : ¬ d.toList = [] := by rw [ByteArray.toList_eq]; exact HS.out
      have hie : d.toList.isEmpty = false := by rw [List.isEmpty_eq_false_iff]; exact hne
      by_cases hz : d[0].toNat = 48
      · have hz' : (((d[0]).toNat : Int) == 48) = true := by simp; omega
        have HNO : Hid (numR s.data.toList = none) := Lib.hid (by
          unfold numR
          rw [hbody, if_pos (.inr ⟨by rw [hdz]; simp; exact UInt8.toNat_inj.1 hz, .inr (by rw [← Lib.size_eq, ← Lib.size_eq]; omega)⟩)])
        clear hbody hdl hd0 hdz h45
        by_cases hd2 : 1 < (d.size : Int)
        · go_enter Tryd.func65, Tryd.ntmps65
          go_wp2
          go_returns
          exact ⟨⟨_, _, rfl, ⟨(fun h => by cases h), fun _ => HNO.out⟩⟩, rfl⟩
        · have hd2' : decide (1 < (d.size : Int)) = false := decide_eq_false hd2
          go_enter Tryd.func65, Tryd.ntmps65
          go_wp2
          go_returns
          exact ⟨⟨_, _, rfl, ⟨(fun h => by cases h), fun _ => HNO.out⟩⟩, rfl⟩
      · have hz' : (((d[0]).toNat : Int) == 48) = false := by simp; omega
        obtain ⟨U, hU⟩ : ∃ U, Lib.parseUintM M64 0 d.data.toList = U := ⟨_, rfl⟩
        have HU := Lib.hid hU
        have hpi := pi_neg d.data.toList HS.out
        rw [hU] at hpi
        have hs45 : s.data.toList = 45 :: d.data.toList := by rw [hd0, h45, hdl]
        have hnum : numR s.data.toList = piOf (45 :: d.data.toList) := by
          unfold numR
          rw [hbody, if_neg (by rw [hdz]; rintro (h | ⟨h, _⟩) <;> first | (cases h; done) | (simp at h; rw [h] at hz; exact hz rfl)), hs45]
        have HNN : Hid ((∀ v, U = .ok v → 9223372036854775808 < v) → numR s.data.toList = none) := Lib.hid (by
          intro h
          rw [hnum, hpi]
          cases hU2 : U with
          | «syntax» => rfl
          | range => rfl
          | ok u => have := h u hU2; dsimp only; rw [if_neg (by omega)])
        have HNY : Hid (∀ u, U = .ok u → numR s.data.toList = if u ≤ 9223372036854775808 then some (-(u : Int)) else none) := Lib.hid (by
          intro u h
          rw [hnum, hpi, h])
        clear hU hpi hbody hdl hd0 hnum hdz h45 hs45
        go_enter Tryd.func65, Tryd.ntmps65
        go_upto_region 9 with fail
        go_loopw [6, 7] (fun uu kk wr => wr = w ∧ ∃ k u : Nat, k ≤ d.size ∧ u ≤ 9223372036854775809 ∧ uu = .int .u64 u ∧ kk = .int .i64 k ∧ Hid (Lib.parseUintM M64 u (d.data.toList.drop k) = U)) (fun uu kk _ => d.size - (intOf kk).toNat)
        case atStart => exact ⟨rfl, 0, 0, Nat.zero_le _, by omega, rfl, rfl, Lib.hid (by rw [List.drop_zero]; exact HU.out)⟩
        case round =>
          obtain ⟨rfl, k, u, hk, hu, rfl, rfl, HH⟩ := hrel
          have i0 : (0 : Int) ≤ (k : Int) := by omega
          have u0 : (0 : Int) ≤ (u : Int) := by omega
          have u1 : (u : Int) ≤ 9223372036854775809 := by omega
          by_cases klt : k < d.size
          · have i1 : (k : Int) < d.size := by omega
            have HD := Lib.hid (drop_at d k klt)
            have HC := Lib.hid (rdigit d[k] wr)
            have HL := dgt_iff d[k]
            have b := u8c d[k]
            obtain ⟨c, hc⟩ : ∃ c, d[k] = c := ⟨_, rfl⟩
            rw [hc] at HD HC HL b
            obtain ⟨x, hx⟩ : ∃ x : Int, (c.toNat : Int) = x := ⟨_, rfl⟩
            obtain ⟨r, hr⟩ : ∃ r, Lx.dgt c = r := ⟨_, rfl⟩
            rw [hx, hr] at HC
            rw [hx] at b
            rw [hx, hr] at HL
            obtain ⟨b0, b1⟩ := b
            have hx2 : (((d[k]).toNat : Nat) : Int) = x := by rw [hc]; exact hx
            have HX := Lib.hid hx
            have HR := Lib.hid hr
            clear hx hr hc
            cases r
            · have HNO : Hid (numR s.data.toList = none) := Lib.hid (HNN.out (fun v hv => by
                have := HH.out
                rw [HD.out, pum_syn HR.out] at this
                rw [← this] at hv; cases hv))
              clear HL
              go_wp2_with (first | ((with_reducible refine HC.out.mono ?_); rintro e w' ⟨rfl, rfl⟩))
              go_returns
              exact ⟨⟨_, _, rfl, ⟨(fun h => by cases h), fun _ => HNO.out⟩⟩, rfl⟩
            · obtain ⟨d0, d1⟩ := HL.1 rfl
              clear HL
              by_cases hb : 922337203685477580 < (u : Int)
              · have HNO : Hid (numR s.data.toList = none) := Lib.hid (HNN.out (fun v hv => by
                  have := HH.out
                  rw [HD.out, hv] at this
                  have := pum_big (by omega) this
                  omega))
                go_wp2_with (first | ((with_reducible refine HC.out.mono ?_); rintro e w' ⟨rfl, rfl⟩))
                go_returns
                exact ⟨⟨_, _, rfl, ⟨(fun h => by cases h), fun _ => HNO.out⟩⟩, rfl⟩
              · have hb' : decide (922337203685477580 < (u : Int)) = false := decide_eq_false hb
                have HH2 : Hid (Lib.parseUintM M64 (u * 10 + (x - 48).toNat) (d.data.toList.drop (k + 1)) = U) := Lib.hid (by
                  have := HH.out
                  rw [HD.out, pum_step (by omega) HR.out] at this
                  rw [← this]
                  congr 2
                  have := HX.out
                  omega)
                have hu2 : u * 10 + (x - 48).toNat ≤ 9223372036854775809 := by omega
                have he2 : ((u * 10 + (x - 48).toNat : Nat) : Int) = (u : Int) * 10 + (x - 48) := by omega
                go_wp2_with (first | ((with_reducible refine HC.out.mono ?_); rintro e w' ⟨rfl, rfl⟩))
                go_roundw
                case rel => exact ⟨trivial, k + 1, u * 10 + (x - 48).toNat, by omega, hu2, by rw [he2], by go_num, HH2⟩
                case measure => simp [intOf]; omega
          · have i1 : (d.size : Int) ≤ (k : Int) := by omega
            have HE : Hid (U = .ok u) := Lib.hid (by
              have := HH.out
              rw [List.drop_of_length_le (by rw [← Lib.size_eq]; omega)] at this
              rw [← this]; unfold Lib.parseUintM; rfl)
            clear HH
            by_cases hb : (u : Int) ≤ 9223372036854775808
            · have HY : Hid (numR s.data.toList = some (-(u : Int))) := Lib.hid (by rw [HNY.out u HE.out, if_pos (by omega)])
              go_wp2
              go_returns
              refine ⟨⟨_, _, rfl, ⟨fun _ => ?_, fun h => by cases h⟩⟩, rfl⟩
              rw [HY.out]
              congr 1
              simp only [IntKind.wrap, IntKind.bits, IntKind.signed, Bool.false_and, Bool.false_eq_true, if_false]
              unfold wrap64
              omega
            · have hb' : decide ((u : Int) ≤ 9223372036854775808) = false := decide_eq_false hb
              have HNO : Hid (numR s.data.toList = none) := Lib.hid (by rw [HNY.out u HE.out, if_neg (by omega)])
              go_wp2
              go_returns
              exact ⟨⟨_, _, rfl, ⟨(fun h => by cases h), fun _ => HNO.out⟩⟩, rfl⟩
  · have hm' : (((s[0]).toNat : Int) == 45) = false := by simp; omega
    have hbody : Lx.body s.data.toList = s.data.toList := by
      rw [hd0]; unfold Lx.body; dsimp only; rw [if_neg (by intro h; rw [h] at hm; exact hm rfl)]
    obtain ⟨U, hU⟩ : ∃ U, Lib.parseUintM M64 0 s.data.toList = U := ⟨_, rfl⟩
    have HU := Lib.hid hU
    have hpi := pi_pos s[0] (s.data.toList.drop 1) hm h43
    rw [← hd0, hU] at hpi
    have HS : Hid (s.data.toList ≠ []) := Lib.hid (by rw [hd0]; simp)
    have hne : ¬ s.toList = [] := by rw [ByteArray.toList_eq]; exact HS.out
    have hie : s.toList.isEmpty = false := by rw [List.isEmpty_eq_false_iff]; exact hne
    by_cases hz : s[0].toNat = 48
    · have hz' : (((s[0]).toNat : Int) == 48) = true := by simp; omega
      by_cases h1 : 1 < (s.size : Int)
      · have HNO : Hid (numR s.data.toList = none) := Lib.hid (by
          unfold numR
          rw [hbody, if_pos (.inr ⟨by rw [hd0]; simp; exact UInt8.toNat_inj.1 hz, .inl (by rw [← Lib.size_eq]; omega)⟩)])
        clear hU hpi hbody hd0
        go_enter Tryd.func65, Tryd.ntmps65
        go_wp2
        go_returns
        exact ⟨⟨_, _, rfl, ⟨(fun h => by cases h), fun _ => HNO.out⟩⟩, rfl⟩
      · have h1' : decide (1 < (s.size : Int)) = false := decide_eq_false h1
        have hnum : numR s.data.toList = piOf s.data.toList := by
          unfold numR
          rw [hbody, if_neg (by rw [← Lib.size_eq]; rintro (h | ⟨_, h | h⟩) <;> first | exact HS.out h | omega)]
        have HNN : Hid ((∀ v, U = .ok v → 9223372036854775808 < v) → numR s.data.toList = none) := Lib.hid (by
          intro h
          rw [hnum, hpi]
          cases hU2 : U with
          | «syntax» => rfl
          | range => rfl
          | ok u => have := h u hU2; dsimp only; rw [if_neg (by omega)])
        have HNY : Hid (∀ u, U = .ok u → numR s.data.toList = if u ≤ 9223372036854775807 then some (u : Int) else none) := Lib.hid (by
          intro u h
          rw [hnum, hpi, h])
        clear hU hpi hbody hd0 hnum
        go_enter Tryd.func65, Tryd.ntmps65
        go_upto_region 9 with fail
        go_loopw [6, 7] (fun uu kk wr => wr = w ∧ ∃ k u : Nat, k ≤ s.size ∧ u ≤ 9223372036854775809 ∧ uu = .int .u64 u ∧ kk = .int .i64 k ∧ Hid (Lib.parseUintM M64 u (s.data.toList.drop k) = U)) (fun uu kk _ => s.size - (intOf kk).toNat)
        case atStart => exact ⟨rfl, 0, 0, Nat.zero_le _, by omega, rfl, rfl, Lib.hid (by rw [List.drop_zero]; exact HU.out)⟩
        case round =>
          obtain ⟨rfl, k, u, hk, hu, rfl, rfl, HH⟩ := hrel
          have i0 : (0 : Int) ≤ (k : Int) := by omega
          have u0 : (0 : Int) ≤ (u : Int) := by omega
          have u1 : (u : Int) ≤ 9223372036854775809 := by omega
          by_cases klt : k < s.size
          · have i1 : (k : Int) < s.size := by omega
            have HD := Lib.hid (drop_at s k klt)
            have HC := Lib.hid (rdigit s[k] wr)
            have HL := dgt_iff s[k]
            have b := u8c s[k]
            obtain ⟨c, hc⟩ : ∃ c, s[k] = c := ⟨_, rfl⟩
            rw [hc] at HD HC HL b
            obtain ⟨x, hx⟩ : ∃ x : Int, (c.toNat : Int) = x := ⟨_, rfl⟩
            obtain ⟨r, hr⟩ : ∃ r, Lx.dgt c = r := ⟨_, rfl⟩
            rw [hx, hr] at HC
            rw [hx] at b
            rw [hx, hr] at HL
            obtain ⟨b0, b1⟩ := b
            have hx2 : (((s[k]).toNat : Nat) : Int) = x := by rw [hc]; exact hx
            have HX := Lib.hid hx
            have HR := Lib.hid hr
            clear hx hr hc
            cases r
            · have HNO : Hid (numR s.data.toList = none) := Lib.hid (HNN.out (fun v hv => by
                have := HH.out
                rw [HD.out, pum_syn HR.out] at this
                rw [← this] at hv; cases hv))
              clear HL
              go_wp2_with (first | ((with_reducible refine HC.out.mono ?_); rintro e w' ⟨rfl, rfl⟩))
              go_returns
              exact ⟨⟨_, _, rfl, ⟨(fun h => by cases h), fun _ => HNO.out⟩⟩, rfl⟩
            · obtain ⟨d0, d1⟩ := HL.1 rfl
              clear HL
              by_cases hb : 922337203685477580 < (u : Int)
              · have HNO : Hid (numR s.data.toList = none) := Lib.hid (HNN.out (fun v hv => by
                  have := HH.out
                  rw [HD.out, hv] at this
                  have := pum_big (by omega) this
                  omega))
                go_wp2_with (first | ((with_reducible refine HC.out.mono ?_); rintro e w' ⟨rfl, rfl⟩))
                go_returns
                exact ⟨⟨_, _, rfl, ⟨(fun h => by cases h), fun _ => HNO.out⟩⟩, rfl⟩
              · have hb' : decide (922337203685477580 < (u : Int)) = false := decide_eq_false hb
                have HH2 : Hid (Lib.parseUintM M64 (u * 10 + (x - 48).toNat) (s.data.toList.drop (k + 1)) = U) := Lib.hid (by
                  have := HH.out
                  rw [HD.out, pum_step (by omega) HR.out] at this
                  rw [← this]
                  congr 2
                  have := HX.out
                  omega)
                have hu2 : u * 10 + (x - 48).toNat ≤ 9223372036854775809 := by omega
                have he2 : ((u * 10 + (x - 48).toNat : Nat) : Int) = (u : Int) * 10 + (x - 48) := by omega
                go_wp2_with (first | ((with_reducible refine HC.out.mono ?_); rintro e w' ⟨rfl, rfl⟩))
                go_roundw
                case rel => exact ⟨trivial, k + 1, u * 10 + (x - 48).toNat, by omega, hu2, by rw [he2], by go_num, HH2⟩
                case measure => simp [intOf]; omega
          · have i1 : (s.size : Int) ≤ (k : Int) := by omega
            have HE : Hid (U = .ok u) := Lib.hid (by
              have := HH.out
              rw [List.drop_of_length_le (by rw [← Lib.size_eq]; omega)] at this
              rw [← this]; unfold Lib.parseUintM; rfl)
            clear HH
            by_cases hb : (u : Int) ≤ 9223372036854775807
            · have HY : Hid (numR s.data.toList = some (u : Int)) := Lib.hid (by rw [HNY.out u HE.out, if_pos (by omega)])
              go_wp2
              go_returns
              exact ⟨⟨_, _, rfl, ⟨fun _ => HY.out, fun h => by cases h⟩⟩, rfl⟩
            · have hb' : decide ((u : Int) ≤ 9223372036854775807) = false := decide_eq_false hb
              have HNO : Hid (numR s.data.toList = none) := Lib.hid (by rw [HNY.out u HE.out, if_neg (by omega)])
              go_wp2
              go_returns
              exact ⟨⟨_, _, rfl, ⟨(fun h => by cases h), fun _ => HNO.out⟩⟩, rfl⟩

    · have hz' : (((s[0]).toNat : Int) == 48) = false := by simp; omega
      have hnum : numR s.data.toList = piOf s.data.toList := by
        unfold numR
        rw [hbody, if_neg (by rw [hd0]; rintro (h | ⟨h, _⟩) <;> first | (cases h; done) | (simp at h; rw [h] at hz; exact hz rfl))]
      have HNN : Hid ((∀ v, U = .ok v → 9223372036854775808 < v) → numR s.data.toList = none) := Lib.hid (by
        intro h
        rw [hnum, hpi]
        cases hU2 : U with
        | «syntax» => rfl
        | range => rfl
        | ok u => have := h u hU2; dsimp only; rw [if_neg (by omega)])
      have HNY : Hid (∀ u, U = .ok u → numR s.data.toList = if u ≤ 9223372036854775807 then some (u : Int) else none) := Lib.hid (by
        intro u h
        rw [hnum, hpi, h])
      clear hU hpi hbody hd0 hnum
      go_enter Tryd.func65, Tryd.ntmps65
      go_upto_region 9 with fail
      go_loopw [6, 7] (fun uu kk wr => wr = w ∧ ∃ k u : Nat, k ≤ s.size ∧ u ≤ 9223372036854775809 ∧ uu = .int .u64 u ∧ kk = .int .i64 k ∧ Hid (Lib.parseUintM M64 u (s.data.toList.drop k) = U)) (fun uu kk _ => s.size - (intOf kk).toNat)
      case atStart => exact ⟨rfl, 0, 0, Nat.zero_le _, by omega, rfl, rfl, Lib.hid (by rw [List.drop_zero]; exact HU.out)⟩
      case round =>
        obtain ⟨rfl, k, u, hk, hu, rfl, rfl, HH⟩ := hrel
        have i0 : (0 : Int) ≤ (k : Int) := by omega
        have u0 : (0 : Int) ≤ (u : Int) := by omega
        have u1 : (u : Int) ≤ 9223372036854775809 := by omega
        by_cases klt : k < s.size
        · have i1 : (k : Int) < s.size := by omega
          have HD := Lib.hid (drop_at s k klt)
          have HC := Lib.hid (rdigit s[k] wr)
          have HL := dgt_iff s[k]
          have b := u8c s[k]
          obtain ⟨c, hc⟩ : ∃ c, s[k] = c := ⟨_, rfl⟩
          rw [hc] at HD HC HL b
          obtain ⟨x, hx⟩ : ∃ x : Int, (c.toNat : Int) = x := ⟨_, rfl⟩
          obtain ⟨r, hr⟩ : ∃ r, Lx.dgt c = r := ⟨_, rfl⟩
          rw [hx, hr] at HC
          rw [hx] at b
          rw [hx, hr] at HL
          obtain ⟨b0, b1⟩ := b
          have hx2 : (((s[k]).toNat : Nat) : Int) = x := by rw [hc]; exact hx
          have HX := Lib.hid hx
          have HR := Lib.hid hr
          clear hx hr hc
          cases r
          · have HNO : Hid (numR s.data.toList = none) := Lib.hid (HNN.out (fun v hv => by
              have := HH.out
              rw [HD.out, pum_syn HR.out] at this
              rw [← this] at hv; cases hv))
            clear HL
            go_wp2_with (first | ((with_reducible refine HC.out.mono ?_); rintro e w' ⟨rfl, rfl⟩))
            go_returns
            exact ⟨⟨_, _, rfl, ⟨(fun h => by cases h), fun _ => HNO.out⟩⟩, rfl⟩
          · obtain ⟨d0, d1⟩ := HL.1 rfl
            clear HL
            by_cases hb : 922337203685477580 < (u : Int)
            · have HNO : Hid (numR s.data.toList = none) := Lib.hid (HNN.out (fun v hv => by
                have := HH.out
                rw [HD.out, hv] at this
                have := pum_big (by omega) this
                omega))
              go_wp2_with (first | ((with_reducible refine HC.out.mono ?_); rintro e w' ⟨rfl, rfl⟩))
              go_returns
              exact ⟨⟨_, _, rfl, ⟨(fun h => by cases h), fun _ => HNO.out⟩⟩, rfl⟩
            · have hb' : decide (922337203685477580 < (u : Int)) = false := decide_eq_false hb
              have HH2 : Hid (Lib.parseUintM M64 (u * 10 + (x - 48).toNat) (s.data.toList.drop (k + 1)) = U) := Lib.hid (by
                have := HH.out
                rw [HD.out, pum_step (by omega) HR.out] at this
                rw [← this]
                congr 2
                have := HX.out
                omega)
              have hu2 : u * 10 + (x - 48).toNat ≤ 9223372036854775809 := by omega
              have he2 : ((u * 10 + (x - 48).toNat : Nat) : Int) = (u : Int) * 10 + (x - 48) := by omega
              go_wp2_with (first | ((with_reducible refine HC.out.mono ?_); rintro e w' ⟨rfl, rfl⟩))
              go_roundw
              case rel => exact ⟨trivial, k + 1, u * 10 + (x - 48).toNat, by omega, hu2, by rw [he2], by go_num, HH2⟩
              case measure => simp [intOf]; omega
        · have i1 : (s.size : Int) ≤ (k : Int) := by omega
          have HE : Hid (U = .ok u) := Lib.hid (by
            have := HH.out
            rw [List.drop_of_length_le (by rw [← Lib.size_eq]; omega)] at this
            rw [← this]; unfold Lib.parseUintM; rfl)
          clear HH
          by_cases hb : (u : Int) ≤ 9223372036854775807
          · have HY : Hid (numR s.data.toList = some (u : Int)) := Lib.hid (by rw [HNY.out u HE.out, if_pos (by omega)])
            go_wp2
            go_returns
            exact ⟨⟨_, _, rfl, ⟨fun _ => HY.out, fun h => by cases h⟩⟩, rfl⟩
          · have hb' : decide ((u : Int) ≤ 9223372036854775807) = false := decide_eq_false hb
            have HNO : Hid (numR s.data.toList = none) := Lib.hid (by rw [HNY.out u HE.out, if_neg (by omega)])
            go_wp2
            go_returns
            exact ⟨⟨_, _, rfl, ⟨(fun h => by cases h), fun _ => HNO.out⟩⟩, rfl⟩
theorem pum_all : ∀ (l : List UInt8) (u v : Nat), Lib.parseUintM M64 u l = .ok v → ∀ c ∈ l, Lx.dgt c = true
  | [], u, v, h, c, hc => by cases hc
  | a :: l, u, v, h, c, hc => by
    rw [Lib.parseUintM] at h
    split at h
    · rename_i h1
      split at h
      · cases h
      · split at h
        · cases h
        · rcases List.mem_cons.1 hc with e | e
          · rw [e]; exact decide_eq_true (by omega)
          · exact pum_all l _ v h c e
    · cases h
theorem dgt_ltr {c : UInt8} (h : Lx.dgt c = true) : Lx.ltr c = true := by
  have := of_decide_eq_true h
  exact decide_eq_true (.inl this)
theorem runs : ∀ d : List UInt8, (Lx.run Lx.ltr d = Lx.run Lx.dgt d ∧ ∀ c, d[Lx.run Lx.dgt d]? = some c → Lx.ltr c = false) ∨ (∃ c, d[Lx.run Lx.dgt d]? = some c ∧ Lx.ltr c = true ∧ Lx.dgt c = false ∧ c ∈ d.take (Lx.run Lx.ltr d))
  | [] => .inl ⟨rfl, fun c h => by simp at h⟩
  | a :: d => by
    cases hd : Lx.dgt a
    · have e2 : Lx.run Lx.dgt (a :: d) = 0 := by rw [Lx.run_cons, hd]; rfl
      cases hl : Lx.ltr a
      · have e1 : Lx.run Lx.ltr (a :: d) = 0 := by rw [Lx.run_cons, hl]; rfl
        left
        rw [e1, e2]
        exact ⟨rfl, fun c h => by simp at h; rw [← h]; exact hl⟩
      · have e1 : Lx.run Lx.ltr (a :: d) = Lx.run Lx.ltr d + 1 := by rw [Lx.run_cons, if_pos hl]
        right
        rw [e1, e2]
        exact ⟨a, rfl, hl, hd, by simp⟩
    · have e2 : Lx.run Lx.dgt (a :: d) = Lx.run Lx.dgt d + 1 := by rw [Lx.run_cons, if_pos hd]
      have e1 : Lx.run Lx.ltr (a :: d) = Lx.run Lx.ltr d + 1 := by rw [Lx.run_cons, if_pos (dgt_ltr hd)]
      rw [e1, e2]
      rcases runs d with ⟨h1, h2⟩ | ⟨c, h1, h2, h3, h4⟩
      · left
        exact ⟨by rw [h1], fun c h => h2 c (by rw [List.getElem?_cons_succ] at h; exact h)⟩
      · right
        exact ⟨c, by rw [List.getElem?_cons_succ]; exact h1, h2, h3, by rw [List.take_succ_cons]; exact List.mem_cons_of_mem _ h4⟩
theorem take_zero {a : Nat} {d : List UInt8} (h : 0 < a) : (d.take a)[0]? = d[0]? := by
  rw [List.getElem?_take_of_lt h]
theorem num_neg (d : List UInt8) : Lx.num piOf (45 :: d) = (numR (45 :: d.take (Lx.run Lx.ltr d))).map (fun v => (v, 1 + Lx.run Lx.ltr d)) := by
  have hb : ∀ x : List UInt8, Lx.body (45 :: x) = x := fun x => rfl
  have ha := Lx.run_le Lx.dgt d
  unfold Lx.num
  dsimp only
  rw [hb, show (45 :: d).length - d.length = 1 by rw [List.length_cons]; omega, Nat.add_comm 1 (Lx.run Lx.dgt d), List.take_succ_cons, List.getElem?_cons_succ]
  rcases runs d with ⟨h1, h2⟩ | ⟨c, h1, h2, h3, h4⟩
  · rw [h1]
    unfold numR
    rw [hb]
    generalize hv : Lx.run Lx.dgt d = a at *
    cases hp : piOf (45 :: d.take a) with
    | none => dsimp only; split <;> rfl
    | some v =>
      dsimp only
      have hne : d.take a ≠ [] := by intro h; rw [h, pi_minus] at hp; cases hp
      have h0 : 0 < a := by rcases Nat.eq_zero_or_pos a with z | z; · rw [z] at hne; simp at hne
                            · exact z
      rw [take_zero h0]
      by_cases hz : d[0]? = some 48
      · rw [if_pos (.inl ⟨hz, by omega⟩), if_pos (.inr ⟨hz, .inr (by simp)⟩)]; rfl
      · rw [if_neg (by rintro (h | ⟨c, h, h'⟩) <;> first | exact hz h.1 | (rw [h2 c h] at h'; cases h')), if_neg (by rintro (h | h) <;> first | exact hne h | exact hz h.1)]
        rw [Nat.add_comm]; rfl
  · have hn : numR (45 :: d.take (Lx.run Lx.ltr d)) = none := by
      unfold numR
      split
      · rfl
      · rw [hb] at *
        have hne : d.take (Lx.run Lx.ltr d) ≠ [] := fun h => by rw [h] at h4; cases h4
        rw [pi_neg _ hne]
        cases hU : Lib.parseUintM M64 0 (d.take (Lx.run Lx.ltr d)) with
        | «syntax» => rfl
        | range => rfl
        | ok u => have := pum_all _ _ _ hU c h4; rw [h3] at this; cases this
    rw [hn]
    split
    · rfl
    · rw [if_pos (.inr ⟨c, h1, h2⟩)]; rfl
theorem num_pos' (c0 : UInt8) (r : List UInt8) (hc : Lx.dgt c0 = true) : Lx.num piOf (c0 :: r) = (numR ((c0 :: r).take (Lx.run Lx.ltr (c0 :: r)))).map (fun v => (v, Lx.run Lx.ltr (c0 :: r))) := by
  have hk := of_decide_eq_true hc
  have hb : ∀ x : List UInt8, Lx.body (c0 :: x) = c0 :: x := fun x => by
    unfold Lx.body; dsimp only; rw [if_neg (by intro h; rw [h] at hk; have : (45 : UInt8).toNat = 45 := rfl; omega)]
  have hr1 : Lx.run Lx.ltr (c0 :: r) = Lx.run Lx.ltr r + 1 := by rw [Lx.run_cons, if_pos (dgt_ltr hc)]
  have hr2 : Lx.run Lx.dgt (c0 :: r) = Lx.run Lx.dgt r + 1 := by rw [Lx.run_cons, if_pos hc]
  obtain ⟨d, hd⟩ : ∃ d, c0 :: r = d := ⟨_, rfl⟩
  have hbd : Lx.body d = d := by rw [← hd]; exact hb r
  have hbt : ∀ k, Lx.body (d.take (k + 1)) = d.take (k + 1) := fun k => by rw [← hd, List.take_succ_cons]; exact hb _
  have h48 : c0.toNat ≠ 45 ∧ c0.toNat ≠ 43 := by omega
  have hpp : ∀ k, piOf (d.take (k + 1)) = match Lib.parseUintM M64 0 (d.take (k + 1)) with
    | .ok u => if u ≤ 9223372036854775807 then some (u : Int) else none
    | _ => none := fun k => by rw [← hd, List.take_succ_cons]; exact pi_pos c0 _ h48.1 h48.2
  rw [hd] at hr1 hr2 ⊢
  unfold Lx.num
  dsimp only
  rw [hbd, Nat.sub_self, Nat.zero_add]
  rcases runs d with ⟨h1, h2⟩ | ⟨c, h1, h2, h3, h4⟩
  · rw [h1]
    unfold numR
    rw [hr2, hbt, ← hr2]
    generalize hv : Lx.run Lx.dgt d = a at *
    have ha : a ≤ d.length := by rw [← hv]; exact Lx.run_le _ _
    cases hp : piOf (d.take a) with
    | none => dsimp only; split <;> rfl
    | some v =>
      dsimp only
      have h0 : 0 < a := by omega
      have hlen : (d.take a).length = a := by rw [List.length_take]; omega
      have hne : d.take a ≠ [] := fun h => by rw [h] at hlen; simp at hlen; omega
      rw [take_zero h0, hlen]
      by_cases hz : d[0]? = some 48 ∧ 1 < a
      · rw [if_pos (.inl hz), if_pos (.inr ⟨hz.1, .inl hz.2⟩)]; rfl
      · rw [if_neg (by rintro (h | ⟨c, h, h'⟩) <;> first | exact hz h | (rw [h2 c h] at h'; cases h')), if_neg (by rintro (h | ⟨h, h' | h'⟩) <;> first | exact hne h | exact hz ⟨h, h'⟩ | omega)]
        rfl
  · have hn : numR (d.take (Lx.run Lx.ltr d)) = none := by
      unfold numR
      split
      · rfl
      · rw [hr1, hpp]
        cases hU : Lib.parseUintM M64 0 (d.take (Lx.run Lx.ltr r + 1)) with
        | «syntax» => rfl
        | range => rfl
        | ok u => rw [← hr1] at hU; have := pum_all _ _ _ hU c h4; rw [h3] at this; cases this
    rw [hn]
    split
    · rfl
    · rw [if_pos (.inr ⟨c, h1, h2⟩)]; rfl
end Go.Proofs.YtllhcpkpbipjlaaDoor
