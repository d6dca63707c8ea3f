/- M20, Q10, Q11, M21, M22 in one. -/
import Derived.Test.YtllhcpkpbipjlaaDoorKar
namespace Go.Proofs.YtllhcpkpbipjlaaDoor
set_option linter.unusedVariables false
set_option linter.unusedSimpArgs false
open Go.ChangeShapes Go.WideShapes Go.ChangeAt Go.RowKit

/-- A command has what its shape has, and nothing else. -/
structure RightC (cm : Lx.Cm) : Prop where
  ok : (Lx.shape cm.word).isSome = true
  nam : ∀ x ∈ cm.names, RName ⟨x.toArray⟩
  nn : cm.names.length = Lx.cN ((Lx.shape cm.word).getD [])
  mm : cm.nums.length = Lx.cI ((Lx.shape cm.word).getD [])
  lo : cm.rg.hl = false → cm.rg.low = 0
  hi : cm.rg.hh = false → cm.rg.high = 0
  rg : ¬ 114 ∈ (Lx.shape cm.word).getD [] → cm.rg = ⟨0, 0, false, false⟩
  ex0 : ¬ 101 ∈ (Lx.shape cm.word).getD [] → cm.ex = Lx.leaf []
  ex1 : 101 ∈ (Lx.shape cm.word).getD [] → RightL (tour cm.ex 1)
theorem shV_get (o : Option (List UInt8)) : shV o = .tuple #[.string ⟨(o.getD []).toArray⟩, .bool o.isSome] := by cases o <;> rfl
theorem shape_len (w : List UInt8) : ((Lx.shape w).getD []).length ≤ 4 ∧ ∀ x ∈ (Lx.shape w).getD [], x = 110 ∨ x = 105 ∨ x = 101 ∨ x = 61 ∨ x = 114 := by
  cases h : Lx.shape w with
  | none => exact ⟨Nat.zero_le _, fun x hx => by cases hx⟩
  | some sh => exact Lx.shape_let (Lx.shape_in h)
set_option maxRecDepth 20000 in
set_option maxHeartbeats 4000000 in
theorem cright_any (w : World) (D : Nat) (cm : Lx.Cm) (g : Cg) (hg : CG w D cm g) (hD : D ≤ 1048576) (hl : (tour cm.ex 1).length ≤ 1048576) (r : Bool) (hr : r = true ↔ RightC cm) :
    Calls Tryd.prog 22 #[.agg (cgC g)] w fun e w' => e = .returned (.bool r) ∧ Below w.heap.size w w' := by
  have HR := Lib.hid hr
  have HG := Lib.hid hg
  obtain ⟨rx, hrx⟩ : ∃ rx : Bool, rx = true ↔ cm.ex = Lx.leaf [] := by classical exact ⟨decide _, decide_eq_true_iff⟩
  obtain ⟨rr, hrr⟩ : ∃ rr : Bool, rr = true ↔ RightL (tour cm.ex 1) := by classical exact ⟨decide _, decide_eq_true_iff⟩
  have HRX := Lib.hid hrx
  have HRR := Lib.hid hrr
  have HSA := Lib.hid (fun W (k : Below w.heap.size w W) => rsame_any D (hV g.z) (tour cm.ex) 1 (.agg #[.int .u8 0, .string ⟨#[]⟩, .slice none 0 0, .slice none 0 0]) (tour (Lx.leaf [])) W (hg.ex.keep k) (ex_leaf' W [] (Nat.zero_le _)) rx (hrx.trans (tour_eq _ _).symm))
  have HRI := Lib.hid (fun W (k : Below w.heap.size w W) => rright_any D (hV g.z) (tour cm.ex) W (hg.ex.keep k) hD hl rr hrr)
  unfold hV pv at HSA HRI
  have HWB : Hid (∀ W, Calls Tryd.prog 12 #[.string g.wb] W fun e w' => e = .returned (.tuple #[.string ⟨((Lx.shape cm.word).getD []).toArray⟩, .bool (Lx.shape cm.word).isSome]) ∧ W = w') := Lib.hid (fun W => by
    have := rshape_any g.wb W
    have e : g.wb.data.toList = cm.word := by rw [hg.wd]
    rw [e, shV_get] at this; exact this)
  obtain ⟨hs4, hlet⟩ := shape_len cm.word
  have HNN := Lib.hid hg.nn
  have HLN : Hid (cm.names.length = g.nl) := Lib.hid (by have := hg.nn.len; simpa using this)
  have HLM : Hid (cm.nums.length = g.ml) := Lib.hid hg.mm.len
  have HRG := Lib.hid hg.rg
  have hnb : (g.nl : Int) ≤ 9223372036854775807 := by have := hg.nn.le; have := hg.nn.top; omega
  have hmb : (g.ml : Int) ≤ 9223372036854775807 := by have := hg.mm.le; have := hg.mm.top; omega
  obtain ⟨wb, an, nl, nc, am, ml, mc, lo, hi, gl, gh, z⟩ := g
  dsimp only at HSA HRI HWB HLN HLM HRG hnb hmb HNN
  obtain ⟨sh, hsh⟩ : ∃ sh, (Lx.shape cm.word).getD [] = sh := ⟨_, rfl⟩
  obtain ⟨ok, hok⟩ : ∃ ok, (Lx.shape cm.word).isSome = ok := ⟨_, rfl⟩
  have HRC : Hid (r = true ↔ ok = true ∧ (∀ x ∈ cm.names, RName ⟨x.toArray⟩) ∧ nl = Lx.cN sh ∧ ml = Lx.cI sh ∧ (gl = false → lo = 0) ∧ (gh = false → hi = 0) ∧ (¬ 114 ∈ sh → lo = 0 ∧ hi = 0 ∧ gl = false ∧ gh = false) ∧ (¬ 101 ∈ sh → cm.ex = Lx.leaf []) ∧ (101 ∈ sh → RightL (tour cm.ex 1))) := Lib.hid (by
    rw [hr]
    constructor
    · rintro ⟨a1, a2, a3, a4, a5, a6, a7, a8, a9⟩
      rw [HRG.out] at a5 a6 a7
      rw [hsh] at a3 a4 a7 a8 a9
      exact ⟨hok ▸ a1, a2, HLN.out ▸ a3, HLM.out ▸ a4, a5, a6, fun q => by have := Lx.Rg.mk.inj (a7 q); exact ⟨this.1, this.2.1, this.2.2.1, this.2.2.2⟩, a8, a9⟩
    · rintro ⟨a1, a2, a3, a4, a5, a6, a7, a8, a9⟩
      refine ⟨hok.trans a1, a2, by rw [hsh, HLN.out]; exact a3, by rw [hsh, HLM.out]; exact a4, by rw [HRG.out]; exact a5, by rw [HRG.out]; exact a6, fun q => ?_, fun q => a8 (hsh ▸ q), fun q => a9 (hsh ▸ q)⟩
      rw [HRG.out]
      obtain ⟨b1, b2, b3, b4⟩ := a7 (hsh ▸ q)
      rw [b1, b2, b3, b4])
  rw [hsh, hok] at HWB
  rw [hsh] at hs4 hlet
  have HLET := Lib.hid hlet
  have HSL := Lib.hid hs4
  have HSS : Hid ((⟨sh.toArray⟩ : ByteArray).size = sh.length) := Lib.hid (by rw [Lib.size_eq])
  obtain ⟨sb, hsb⟩ : ∃ sb : ByteArray, ⟨sh.toArray⟩ = sb := ⟨_, rfl⟩
  have HSG : Hid (∀ j (h : j < sb.size) (h' : j < sh.length), sb[j]'h = sh[j]'h') := Lib.hid (by subst hsb; intro j h h'; rfl)
  rw [hsb] at HSS HWB
  unfold cgC
  dsimp only
  obtain ⟨b, hb⟩ : ∃ z, w.heap.size = z := ⟨_, rfl⟩
  obtain ⟨w1, hw1⟩ : ∃ y, w.alloc (.cells #[.string wb, .slice an nl nc, .slice am ml mc, .int .i64 lo, .int .i64 hi, .bool gl, .bool gh, .int .u8 z.p.op, .string z.p.nm, .slice z.an z.nn z.nc, .slice z.aa z.p.k z.ac] 39) = y := ⟨_, rfl⟩
  have HX : Hid (Bc w w1 b #[.string wb, .slice an nl nc, .slice am ml mc, .int .i64 lo, .int .i64 hi, .bool gl, .bool gh, .int .u8 z.p.op, .string z.p.nm, .slice z.an z.nn z.nc, .slice z.aa z.p.k z.ac]) := Lib.hid ⟨by rw [← hw1]; exact (Below.refl _ w).alloc (Nat.le_refl _) _, by rw [← hw1, ← hb, al_new]⟩
  clear hg hD hl hr hrx hrr hs4 hlet hsh hok hsb HR
  have e0 := cell_blk HX.out.box 0
  have e1 := cell_blk HX.out.box 1
  have e2 := cell_blk HX.out.box 2
  have e3 := cell_blk HX.out.box 3
  have e4 := cell_blk HX.out.box 4
  have e5 := cell_blk HX.out.box 5
  have e6 := cell_blk HX.out.box 6
  have e7 := cell_blk HX.out.box 7
  have e8 := cell_blk HX.out.box 8
  have e9 := cell_blk HX.out.box 9
  have e10 := cell_blk HX.out.box 10
  go_enter Tryd.func22, Tryd.ntmps22
  go_wp2_with fail
  (with_reducible refine (HWB.out _).mono ?_)
  rintro e w3 ⟨rfl, rfl⟩
  clear hw1 hb
  go_upto_region 4 with fail
  have hs1 : (sh.length : Int) ≤ 4 := by have := HSL.out; omega
  go_loopw [5, 6, 7, 8, 9] (fun s5 s6 s7 s8 ii wr => ∃ (j : Nat) (sc ex : Bool), j ≤ sh.length ∧ s5 = .int .i64 (Lx.cN (sh.take j) : Nat) ∧ s6 = .int .i64 (Lx.cI (sh.take j) : Nat) ∧ s7 = .bool sc ∧ s8 = .bool ex ∧ ii = .int .i64 j ∧ w1 = wr ∧ Hid (sc = true ↔ 114 ∈ sh.take j) ∧ Hid (ex = true ↔ 101 ∈ sh.take j)) (fun _ _ _ _ ii _ => sh.length - (intOf ii).toNat)
  case atStart => exact ⟨0, false, false, Nat.zero_le _, rfl, rfl, rfl, rfl, rfl, rfl, Lib.hid (by simp), Lib.hid (by simp)⟩
  case round =>
    obtain ⟨j, sc, ex, hj, rfl, rfl, rfl, rfl, rfl, rfl, HS, HE⟩ := hrel
    have HA2 : Hid (Lx.cN (sh.take j) ≤ 4) := Lib.hid (Nat.le_trans (Lx.cN_len _) (by rw [List.length_take]; have := HSL.out; omega))
    have HI2 : Hid (Lx.cI (sh.take j) ≤ 4) := Lib.hid (Nat.le_trans (Lx.cI_len _) (by rw [List.length_take]; have := HSL.out; omega))
    have j0 : (0 : Int) ≤ (j : Int) := by omega
    by_cases jlt : j < sh.length
    · have jb : j < sb.size := by rw [HSS.out]; exact jlt
      have j1 : (j : Int) < (sb.size : Int) := by omega
      have j2 : (j : Int) ≤ 4 := by omega
      have HCN0 := Lib.hid (Lx.cN_step sh j jlt)
      have HCI0 := Lib.hid (Lx.cI_step sh j jlt)
      obtain ⟨A, hA⟩ : ∃ A, Lx.cN (sh.take j) = A := ⟨_, rfl⟩
      obtain ⟨I, hI⟩ : ∃ I, Lx.cI (sh.take j) = I := ⟨_, rfl⟩
      rw [hA] at HCN0 HA2
      rw [hI] at HCI0 HI2
      simp only [hA, hI]
      have iA : (0 : Int) ≤ (A : Int) := by omega
      have iB : (A : Int) ≤ 4 := by have := HA2.out; omega
      have iC : (0 : Int) ≤ (I : Int) := by omega
      have iD : (I : Int) ≤ 4 := by have := HI2.out; omega
      clear hA hI
      rcases HLET.out _ (List.getElem_mem jlt) with hx | hx | hx | hx | hx
      · have hxx : ((sb[j]'jb).toNat : Int) = 110 := by rw [HSG.out j jb jlt, hx]; rfl
        have HCN : Hid (Lx.cN (sh.take (j + 1)) = A + 1) := Lib.hid (by rw [HCN0.out, hx]; rfl)
        have HCI : Hid (Lx.cI (sh.take (j + 1)) = I) := Lib.hid (by rw [HCI0.out, hx]; rfl)
        have HS2 : Hid ((sc : Bool) = true ↔ 114 ∈ sh.take (j + 1)) := Lib.hid (by rw [List.take_succ_eq_append_getElem jlt, hx, List.mem_append]; simp [HS.out])
        have HE2 : Hid ((ex : Bool) = true ↔ 101 ∈ sh.take (j + 1)) := Lib.hid (by rw [List.take_succ_eq_append_getElem jlt, hx, List.mem_append]; simp [HE.out])
        clear HS HE HCN0 HCI0 hx
        go_wp2_with fail
        go_roundw
        case rel => exact ⟨j + 1, sc, ex, by omega, by rw [HCN.out]; try go_num, by rw [HCI.out]; try go_num, rfl, rfl, by go_num, by first | rfl | trivial, HS2, HE2⟩
        case measure => simp [intOf]; omega
      · have hxx : ((sb[j]'jb).toNat : Int) = 105 := by rw [HSG.out j jb jlt, hx]; rfl
        have HCN : Hid (Lx.cN (sh.take (j + 1)) = A) := Lib.hid (by rw [HCN0.out, hx]; rfl)
        have HCI : Hid (Lx.cI (sh.take (j + 1)) = I + 1) := Lib.hid (by rw [HCI0.out, hx]; rfl)
        have HS2 : Hid ((sc : Bool) = true ↔ 114 ∈ sh.take (j + 1)) := Lib.hid (by rw [List.take_succ_eq_append_getElem jlt, hx, List.mem_append]; simp [HS.out])
        have HE2 : Hid ((ex : Bool) = true ↔ 101 ∈ sh.take (j + 1)) := Lib.hid (by rw [List.take_succ_eq_append_getElem jlt, hx, List.mem_append]; simp [HE.out])
        clear HS HE HCN0 HCI0 hx
        go_wp2_with fail
        go_roundw
        case rel => exact ⟨j + 1, sc, ex, by omega, by rw [HCN.out]; try go_num, by rw [HCI.out]; try go_num, rfl, rfl, by go_num, by first | rfl | trivial, HS2, HE2⟩
        case measure => simp [intOf]; omega
      · have hxx : ((sb[j]'jb).toNat : Int) = 101 := by rw [HSG.out j jb jlt, hx]; rfl
        have HCN : Hid (Lx.cN (sh.take (j + 1)) = A) := Lib.hid (by rw [HCN0.out, hx]; rfl)
        have HCI : Hid (Lx.cI (sh.take (j + 1)) = I) := Lib.hid (by rw [HCI0.out, hx]; rfl)
        have HS2 : Hid ((sc : Bool) = true ↔ 114 ∈ sh.take (j + 1)) := Lib.hid (by rw [List.take_succ_eq_append_getElem jlt, hx, List.mem_append]; simp [HS.out])
        have HE2 : Hid ((true : Bool) = true ↔ 101 ∈ sh.take (j + 1)) := Lib.hid (by rw [List.take_succ_eq_append_getElem jlt, hx, List.mem_append]; simp [HE.out])
        clear HS HE HCN0 HCI0 hx
        go_wp2_with fail
        go_roundw
        case rel => exact ⟨j + 1, sc, true, by omega, by rw [HCN.out]; try go_num, by rw [HCI.out]; try go_num, rfl, rfl, by go_num, by first | rfl | trivial, HS2, HE2⟩
        case measure => simp [intOf]; omega
      · have hxx : ((sb[j]'jb).toNat : Int) = 61 := by rw [HSG.out j jb jlt, hx]; rfl
        have HCN : Hid (Lx.cN (sh.take (j + 1)) = A) := Lib.hid (by rw [HCN0.out, hx]; rfl)
        have HCI : Hid (Lx.cI (sh.take (j + 1)) = I) := Lib.hid (by rw [HCI0.out, hx]; rfl)
        have HS2 : Hid ((sc : Bool) = true ↔ 114 ∈ sh.take (j + 1)) := Lib.hid (by rw [List.take_succ_eq_append_getElem jlt, hx, List.mem_append]; simp [HS.out])
        have HE2 : Hid ((ex : Bool) = true ↔ 101 ∈ sh.take (j + 1)) := Lib.hid (by rw [List.take_succ_eq_append_getElem jlt, hx, List.mem_append]; simp [HE.out])
        clear HS HE HCN0 HCI0 hx
        go_wp2_with fail
        go_roundw
        case rel => exact ⟨j + 1, sc, ex, by omega, by rw [HCN.out]; try go_num, by rw [HCI.out]; try go_num, rfl, rfl, by go_num, by first | rfl | trivial, HS2, HE2⟩
        case measure => simp [intOf]; omega
      · have hxx : ((sb[j]'jb).toNat : Int) = 114 := by rw [HSG.out j jb jlt, hx]; rfl
        have HCN : Hid (Lx.cN (sh.take (j + 1)) = A) := Lib.hid (by rw [HCN0.out, hx]; rfl)
        have HCI : Hid (Lx.cI (sh.take (j + 1)) = I) := Lib.hid (by rw [HCI0.out, hx]; rfl)
        have HS2 : Hid ((true : Bool) = true ↔ 114 ∈ sh.take (j + 1)) := Lib.hid (by rw [List.take_succ_eq_append_getElem jlt, hx, List.mem_append]; simp [HS.out])
        have HE2 : Hid ((ex : Bool) = true ↔ 101 ∈ sh.take (j + 1)) := Lib.hid (by rw [List.take_succ_eq_append_getElem jlt, hx, List.mem_append]; simp [HE.out])
        clear HS HE HCN0 HCI0 hx
        go_wp2_with fail
        go_roundw
        case rel => exact ⟨j + 1, true, ex, by omega, by rw [HCN.out]; try go_num, by rw [HCI.out]; try go_num, rfl, rfl, by go_num, by first | rfl | trivial, HS2, HE2⟩
        case measure => simp [intOf]; omega
    · have j1 : ¬ (j : Int) < (sb.size : Int) := by have := HSS.out; omega
      obtain rfl : sh.length = j := by omega
      rw [List.take_length] at HS HE HA2 HI2 ⊢
      obtain ⟨A, hA⟩ : ∃ A, Lx.cN sh = A := ⟨_, rfl⟩
      obtain ⟨I, hI⟩ : ∃ I, Lx.cI sh = I := ⟨_, rfl⟩
      rw [hA] at HA2 HRC ⊢
      rw [hI] at HI2 HRC ⊢
      have iA : (0 : Int) ≤ (A : Int) := by omega
      have iB : (A : Int) ≤ 4 := by have := HA2.out; omega
      have iC : (0 : Int) ≤ (I : Int) := by omega
      have iD : (I : Int) ≤ 4 := by have := HI2.out; omega
      have HEA := Lib.hid hA
      clear hA hI jlt hj HLET HSG
      go_upto_region 16 with fail
      go_loopw [4, 10] (fun s4 ii wr => ∃ (j : Nat) (q : Bool), j ≤ nl ∧ s4 = .bool q ∧ ii = .int .i64 j ∧ w1 = wr ∧ Hid (q = true ↔ ok = true ∧ ∀ i (h : i < cm.names.length), i < j → RName ⟨(cm.names[i]).toArray⟩)) (fun _ ii _ => nl - (intOf ii).toNat)
      case atStart => exact ⟨0, ok, Nat.zero_le _, rfl, rfl, rfl, Lib.hid ⟨fun q => ⟨q, fun i _ h => absurd h (Nat.not_lt_zero _)⟩, fun q => q.1⟩⟩
      case round =>
        obtain ⟨j, q, hj, rfl, rfl, rfl, HQ⟩ := hrel
        have j0 : (0 : Int) ≤ (j : Int) := by omega
        by_cases jlt : j < nl
        · have j1 : (j : Int) < (nl : Int) := by omega
          cases q
          · have HQ2 : Hid (false = true ↔ ok = true ∧ ∀ i (h : i < cm.names.length), i < j + 1 → RName ⟨(cm.names[i]).toArray⟩) := Lib.hid ⟨fun e => (by cases e), fun e => HQ.out.2 ⟨e.1, fun i h1 h2 => e.2 i h1 (by omega)⟩⟩
            clear HQ
            go_wp2_with fail
            go_roundw
            case rel => exact ⟨j + 1, false, by omega, rfl, by go_num, by first | rfl | trivial, HQ2⟩
            case measure => simp [intOf]; omega
          · have hjn : j < cm.names.length := by rw [HLN.out]; exact jlt
            obtain ⟨nb, np, han, hc⟩ := HNN.out.here (by omega)
            have c1 := cell_keep (hc j (by simpa using hjn)) HX.out.bw
            rw [List.getElem_map] at c1
            obtain ⟨sx, hsx⟩ : ∃ s : ByteArray, ⟨(cm.names[j]).toArray⟩ = s := ⟨_, rfl⟩
            rw [hsx] at c1
            obtain ⟨rn, hrn⟩ : ∃ rn : Bool, rn = true ↔ RName sx := by classical exact ⟨decide _, decide_eq_true_iff⟩
            have HNM := Lib.hid (rnm_name sx w1 rn hrn)
            have HQ2 : Hid (rn = true ↔ ok = true ∧ ∀ i (h : i < cm.names.length), i < j + 1 → RName ⟨(cm.names[i]).toArray⟩) := Lib.hid (by
              have a := HQ.out.1 rfl
              rw [hrn]
              constructor
              · intro e
                refine ⟨a.1, fun i h1 h2 => ?_⟩
                by_cases z : i = j
                · subst z; rw [hsx]; exact e
                · exact a.2 i h1 (by omega)
              · intro e; rw [← hsx]; exact e.2 j hjn (by omega))
            subst han
            clear HQ hc hsx hrn
            go_wp2_with fail
            (with_reducible refine HNM.out.mono ?_)
            rintro e w4 ⟨rfl, rfl⟩
            go_wp2_with fail
            go_roundw
            case rel => exact ⟨j + 1, rn, by omega, rfl, by go_num, by first | rfl | trivial, HQ2⟩
            case measure => simp [intOf]; omega
        · have j1 : ¬ (j : Int) < (nl : Int) := by omega
          obtain rfl : nl = j := by omega
          have HQN : Hid (q = true ↔ ok = true ∧ ∀ x ∈ cm.names, RName ⟨x.toArray⟩) := Lib.hid (by
            rw [HQ.out]
            constructor
            · rintro ⟨a, c⟩
              refine ⟨a, fun x hx => ?_⟩
              obtain ⟨i, hi, rfl⟩ := List.getElem_of_mem hx
              exact c i hi (by have := HLN.out; omega)
            · rintro ⟨a, c⟩
              exact ⟨a, fun i h1 _ => c _ (List.getElem_mem h1)⟩)
          obtain ⟨bq, hbq⟩ : ∃ bq : Bool, bq = true ↔ ((gl = false ∧ lo ≠ 0) ∨ (gh = false ∧ hi ≠ 0) ∨ (sc = false ∧ ¬ (lo = 0 ∧ hi = 0 ∧ gl = false ∧ gh = false))) := by classical exact ⟨decide _, decide_eq_true_iff⟩
          obtain ⟨b5, hb5⟩ : ∃ z, w1.heap.size = z := ⟨_, rfl⟩
          obtain ⟨w5, hw5⟩ : ∃ y, w1.alloc (.cells #[.int .i64 lo, .int .i64 hi, .bool gl, .bool gh] 37) = y := ⟨_, rfl⟩
          have KA : Hid (Below w1.heap.size w1 w5) := Lib.hid (by rw [← hw5]; exact (Below.refl _ w1).alloc (Nat.le_refl _) _)
          have H5 : Hid (w5.heap[b5]? = some (.cells #[.int .i64 lo, .int .i64 hi, .bool gl, .bool gh] 37 (0, 0))) := Lib.hid (by rw [← hw5, ← hb5, al_new])
          have HWX := Lib.hid hw5
          have HBX := Lib.hid hb5
          clear hw5 hb5 HQ jlt hj
          go_upto_region 20 with fail
          rw [HWX.out, HBX.out]
          have HX := Lib.hid (HX.out.keep KA.out)
          clear HWX HBX KA e0 e1 e2 e3 e4 e5 e6 e7 e8 e9 e10
          have e0 := cell_blk HX.out.box 0
          have e1 := cell_blk HX.out.box 1
          have e2 := cell_blk HX.out.box 2
          have e3 := cell_blk HX.out.box 3
          have e4 := cell_blk HX.out.box 4
          have e5 := cell_blk HX.out.box 5
          have e6 := cell_blk HX.out.box 6
          have e7 := cell_blk HX.out.box 7
          have e8 := cell_blk HX.out.box 8
          have e9 := cell_blk HX.out.box 9
          have e10 := cell_blk HX.out.box 10
          have f0 := cell_blk H5.out 0
          have f1 := cell_blk H5.out 1
          have f2 := cell_blk H5.out 2
          have f3 := cell_blk H5.out 3
          go_cut [83] from 57 to 83 (fun s83 wx => s83 = .bool bq ∧ wx = w5)
          case first =>
            cases gl
            · cases gh
              · cases sc
                · by_cases l0 : lo = 0
                  · subst l0
                    by_cases h0 : hi = 0
                    · subst h0
                      have g9 : bq = false := by cases bq; rfl; exact absurd (hbq.1 rfl) (by simp)
                      clear hbq
                      go_wp2_with fail
                      go_meet
                      case rel => exact ⟨by rw [g9], rfl⟩
                    · have k1 : (hi != 0) = true := by rw [bne_iff_ne]; exact h0
                      have k2 : (hi == 0) = false := by rw [beq_eq_false_iff_ne]; exact h0
                      have g9 : bq = true := hbq.2 (by simp [h0])
                      clear hbq h0
                      go_wp2_with fail
                      go_meet
                      case rel => exact ⟨by rw [g9], rfl⟩
                  · by_cases h0 : hi = 0
                    · subst h0
                      have l1 : (lo != 0) = true := by rw [bne_iff_ne]; exact l0
                      have l2 : (lo == 0) = false := by rw [beq_eq_false_iff_ne]; exact l0
                      have g9 : bq = true := hbq.2 (by simp [l0])
                      clear hbq l0
                      go_wp2_with fail
                      go_meet
                      case rel => exact ⟨by rw [g9], rfl⟩
                    · have l1 : (lo != 0) = true := by rw [bne_iff_ne]; exact l0
                      have l2 : (lo == 0) = false := by rw [beq_eq_false_iff_ne]; exact l0
                      have k1 : (hi != 0) = true := by rw [bne_iff_ne]; exact h0
                      have k2 : (hi == 0) = false := by rw [beq_eq_false_iff_ne]; exact h0
                      have g9 : bq = true := hbq.2 (by simp [l0, h0])
                      clear hbq l0 h0
                      go_wp2_with fail
                      go_meet
                      case rel => exact ⟨by rw [g9], rfl⟩
                · by_cases l0 : lo = 0
                  · subst l0
                    by_cases h0 : hi = 0
                    · subst h0
                      have g9 : bq = false := by cases bq; rfl; exact absurd (hbq.1 rfl) (by simp)
                      clear hbq
                      go_wp2_with fail
                      go_meet
                      case rel => exact ⟨by rw [g9], rfl⟩
                    · have k1 : (hi != 0) = true := by rw [bne_iff_ne]; exact h0
                      have k2 : (hi == 0) = false := by rw [beq_eq_false_iff_ne]; exact h0
                      have g9 : bq = true := hbq.2 (by simp [h0])
                      clear hbq h0
                      go_wp2_with fail
                      go_meet
                      case rel => exact ⟨by rw [g9], rfl⟩
                  · by_cases h0 : hi = 0
                    · subst h0
                      have l1 : (lo != 0) = true := by rw [bne_iff_ne]; exact l0
                      have l2 : (lo == 0) = false := by rw [beq_eq_false_iff_ne]; exact l0
                      have g9 : bq = true := hbq.2 (by simp [l0])
                      clear hbq l0
                      go_wp2_with fail
                      go_meet
                      case rel => exact ⟨by rw [g9], rfl⟩
                    · have l1 : (lo != 0) = true := by rw [bne_iff_ne]; exact l0
                      have l2 : (lo == 0) = false := by rw [beq_eq_false_iff_ne]; exact l0
                      have k1 : (hi != 0) = true := by rw [bne_iff_ne]; exact h0
                      have k2 : (hi == 0) = false := by rw [beq_eq_false_iff_ne]; exact h0
                      have g9 : bq = true := hbq.2 (by simp [l0, h0])
                      clear hbq l0 h0
                      go_wp2_with fail
                      go_meet
                      case rel => exact ⟨by rw [g9], rfl⟩
              · cases sc
                · by_cases l0 : lo = 0
                  · subst l0
                    by_cases h0 : hi = 0
                    · subst h0
                      have g9 : bq = true := hbq.2 (by simp)
                      clear hbq
                      go_wp2_with fail
                      go_meet
                      case rel => exact ⟨by rw [g9], rfl⟩
                    · have k1 : (hi != 0) = true := by rw [bne_iff_ne]; exact h0
                      have k2 : (hi == 0) = false := by rw [beq_eq_false_iff_ne]; exact h0
                      have g9 : bq = true := hbq.2 (by simp [h0])
                      clear hbq h0
                      go_wp2_with fail
                      go_meet
                      case rel => exact ⟨by rw [g9], rfl⟩
                  · by_cases h0 : hi = 0
                    · subst h0
                      have l1 : (lo != 0) = true := by rw [bne_iff_ne]; exact l0
                      have l2 : (lo == 0) = false := by rw [beq_eq_false_iff_ne]; exact l0
                      have g9 : bq = true := hbq.2 (by simp [l0])
                      clear hbq l0
                      go_wp2_with fail
                      go_meet
                      case rel => exact ⟨by rw [g9], rfl⟩
                    · have l1 : (lo != 0) = true := by rw [bne_iff_ne]; exact l0
                      have l2 : (lo == 0) = false := by rw [beq_eq_false_iff_ne]; exact l0
                      have k1 : (hi != 0) = true := by rw [bne_iff_ne]; exact h0
                      have k2 : (hi == 0) = false := by rw [beq_eq_false_iff_ne]; exact h0
                      have g9 : bq = true := hbq.2 (by simp [l0, h0])
                      clear hbq l0 h0
                      go_wp2_with fail
                      go_meet
                      case rel => exact ⟨by rw [g9], rfl⟩
                · by_cases l0 : lo = 0
                  · subst l0
                    by_cases h0 : hi = 0
                    · subst h0
                      have g9 : bq = false := by cases bq; rfl; exact absurd (hbq.1 rfl) (by simp)
                      clear hbq
                      go_wp2_with fail
                      go_meet
                      case rel => exact ⟨by rw [g9], rfl⟩
                    · have k1 : (hi != 0) = true := by rw [bne_iff_ne]; exact h0
                      have k2 : (hi == 0) = false := by rw [beq_eq_false_iff_ne]; exact h0
                      have g9 : bq = false := by cases bq; rfl; exact absurd (hbq.1 rfl) (by simp)
                      clear hbq h0
                      go_wp2_with fail
                      go_meet
                      case rel => exact ⟨by rw [g9], rfl⟩
                  · by_cases h0 : hi = 0
                    · subst h0
                      have l1 : (lo != 0) = true := by rw [bne_iff_ne]; exact l0
                      have l2 : (lo == 0) = false := by rw [beq_eq_false_iff_ne]; exact l0
                      have g9 : bq = true := hbq.2 (by simp [l0])
                      clear hbq l0
                      go_wp2_with fail
                      go_meet
                      case rel => exact ⟨by rw [g9], rfl⟩
                    · have l1 : (lo != 0) = true := by rw [bne_iff_ne]; exact l0
                      have l2 : (lo == 0) = false := by rw [beq_eq_false_iff_ne]; exact l0
                      have k1 : (hi != 0) = true := by rw [bne_iff_ne]; exact h0
                      have k2 : (hi == 0) = false := by rw [beq_eq_false_iff_ne]; exact h0
                      have g9 : bq = true := hbq.2 (by simp [l0, h0])
                      clear hbq l0 h0
                      go_wp2_with fail
                      go_meet
                      case rel => exact ⟨by rw [g9], rfl⟩
            · cases gh
              · cases sc
                · by_cases l0 : lo = 0
                  · subst l0
                    by_cases h0 : hi = 0
                    · subst h0
                      have g9 : bq = true := hbq.2 (by simp)
                      clear hbq
                      go_wp2_with fail
                      go_meet
                      case rel => exact ⟨by rw [g9], rfl⟩
                    · have k1 : (hi != 0) = true := by rw [bne_iff_ne]; exact h0
                      have k2 : (hi == 0) = false := by rw [beq_eq_false_iff_ne]; exact h0
                      have g9 : bq = true := hbq.2 (by simp [h0])
                      clear hbq h0
                      go_wp2_with fail
                      go_meet
                      case rel => exact ⟨by rw [g9], rfl⟩
                  · by_cases h0 : hi = 0
                    · subst h0
                      have l1 : (lo != 0) = true := by rw [bne_iff_ne]; exact l0
                      have l2 : (lo == 0) = false := by rw [beq_eq_false_iff_ne]; exact l0
                      have g9 : bq = true := hbq.2 (by simp [l0])
                      clear hbq l0
                      go_wp2_with fail
                      go_meet
                      case rel => exact ⟨by rw [g9], rfl⟩
                    · have l1 : (lo != 0) = true := by rw [bne_iff_ne]; exact l0
                      have l2 : (lo == 0) = false := by rw [beq_eq_false_iff_ne]; exact l0
                      have k1 : (hi != 0) = true := by rw [bne_iff_ne]; exact h0
                      have k2 : (hi == 0) = false := by rw [beq_eq_false_iff_ne]; exact h0
                      have g9 : bq = true := hbq.2 (by simp [l0, h0])
                      clear hbq l0 h0
                      go_wp2_with fail
                      go_meet
                      case rel => exact ⟨by rw [g9], rfl⟩
                · by_cases l0 : lo = 0
                  · subst l0
                    by_cases h0 : hi = 0
                    · subst h0
                      have g9 : bq = false := by cases bq; rfl; exact absurd (hbq.1 rfl) (by simp)
                      clear hbq
                      go_wp2_with fail
                      go_meet
                      case rel => exact ⟨by rw [g9], rfl⟩
                    · have k1 : (hi != 0) = true := by rw [bne_iff_ne]; exact h0
                      have k2 : (hi == 0) = false := by rw [beq_eq_false_iff_ne]; exact h0
                      have g9 : bq = true := hbq.2 (by simp [h0])
                      clear hbq h0
                      go_wp2_with fail
                      go_meet
                      case rel => exact ⟨by rw [g9], rfl⟩
                  · by_cases h0 : hi = 0
                    · subst h0
                      have l1 : (lo != 0) = true := by rw [bne_iff_ne]; exact l0
                      have l2 : (lo == 0) = false := by rw [beq_eq_false_iff_ne]; exact l0
                      have g9 : bq = false := by cases bq; rfl; exact absurd (hbq.1 rfl) (by simp)
                      clear hbq l0
                      go_wp2_with fail
                      go_meet
                      case rel => exact ⟨by rw [g9], rfl⟩
                    · have l1 : (lo != 0) = true := by rw [bne_iff_ne]; exact l0
                      have l2 : (lo == 0) = false := by rw [beq_eq_false_iff_ne]; exact l0
                      have k1 : (hi != 0) = true := by rw [bne_iff_ne]; exact h0
                      have k2 : (hi == 0) = false := by rw [beq_eq_false_iff_ne]; exact h0
                      have g9 : bq = true := hbq.2 (by simp [l0, h0])
                      clear hbq l0 h0
                      go_wp2_with fail
                      go_meet
                      case rel => exact ⟨by rw [g9], rfl⟩
              · cases sc
                · by_cases l0 : lo = 0
                  · subst l0
                    by_cases h0 : hi = 0
                    · subst h0
                      have g9 : bq = true := hbq.2 (by simp)
                      clear hbq
                      go_wp2_with fail
                      go_meet
                      case rel => exact ⟨by rw [g9], rfl⟩
                    · have k1 : (hi != 0) = true := by rw [bne_iff_ne]; exact h0
                      have k2 : (hi == 0) = false := by rw [beq_eq_false_iff_ne]; exact h0
                      have g9 : bq = true := hbq.2 (by simp [h0])
                      clear hbq h0
                      go_wp2_with fail
                      go_meet
                      case rel => exact ⟨by rw [g9], rfl⟩
                  · by_cases h0 : hi = 0
                    · subst h0
                      have l1 : (lo != 0) = true := by rw [bne_iff_ne]; exact l0
                      have l2 : (lo == 0) = false := by rw [beq_eq_false_iff_ne]; exact l0
                      have g9 : bq = true := hbq.2 (by simp [l0])
                      clear hbq l0
                      go_wp2_with fail
                      go_meet
                      case rel => exact ⟨by rw [g9], rfl⟩
                    · have l1 : (lo != 0) = true := by rw [bne_iff_ne]; exact l0
                      have l2 : (lo == 0) = false := by rw [beq_eq_false_iff_ne]; exact l0
                      have k1 : (hi != 0) = true := by rw [bne_iff_ne]; exact h0
                      have k2 : (hi == 0) = false := by rw [beq_eq_false_iff_ne]; exact h0
                      have g9 : bq = true := hbq.2 (by simp [l0, h0])
                      clear hbq l0 h0
                      go_wp2_with fail
                      go_meet
                      case rel => exact ⟨by rw [g9], rfl⟩
                · by_cases l0 : lo = 0
                  · subst l0
                    by_cases h0 : hi = 0
                    · subst h0
                      have g9 : bq = false := by cases bq; rfl; exact absurd (hbq.1 rfl) (by simp)
                      clear hbq
                      go_wp2_with fail
                      go_meet
                      case rel => exact ⟨by rw [g9], rfl⟩
                    · have k1 : (hi != 0) = true := by rw [bne_iff_ne]; exact h0
                      have k2 : (hi == 0) = false := by rw [beq_eq_false_iff_ne]; exact h0
                      have g9 : bq = false := by cases bq; rfl; exact absurd (hbq.1 rfl) (by simp)
                      clear hbq h0
                      go_wp2_with fail
                      go_meet
                      case rel => exact ⟨by rw [g9], rfl⟩
                  · by_cases h0 : hi = 0
                    · subst h0
                      have l1 : (lo != 0) = true := by rw [bne_iff_ne]; exact l0
                      have l2 : (lo == 0) = false := by rw [beq_eq_false_iff_ne]; exact l0
                      have g9 : bq = false := by cases bq; rfl; exact absurd (hbq.1 rfl) (by simp)
                      clear hbq l0
                      go_wp2_with fail
                      go_meet
                      case rel => exact ⟨by rw [g9], rfl⟩
                    · have l1 : (lo != 0) = true := by rw [bne_iff_ne]; exact l0
                      have l2 : (lo == 0) = false := by rw [beq_eq_false_iff_ne]; exact l0
                      have k1 : (hi != 0) = true := by rw [bne_iff_ne]; exact h0
                      have k2 : (hi == 0) = false := by rw [beq_eq_false_iff_ne]; exact h0
                      have g9 : bq = false := by cases bq; rfl; exact absurd (hbq.1 rfl) (by simp)
                      clear hbq l0 h0
                      go_wp2_with fail
                      go_meet
                      case rel => exact ⟨by rw [g9], rfl⟩
          case rest =>
            obtain ⟨rfl, hwx⟩ := hcut
            rw [hwx]
            clear hwx f0 f1 f2 f3
            cases bq
            · have HBQ := Lib.hid hbq
              clear hbq
              obtain ⟨eq, heq⟩ : ∃ eq : Bool, eq = true ↔ ((ex = false ∧ rx = false) ∨ (ex = true ∧ rr = false)) := by classical exact ⟨decide _, decide_eq_true_iff⟩
              go_upto_region 22 with fail
              go_cut [101] from 84 to 101 (fun s101 wx => s101 = .bool eq ∧ Hid (Bc w wx b #[.string wb, .slice an nl nc, .slice am ml mc, .int .i64 lo, .int .i64 hi, .bool gl, .bool gh, .int .u8 z.p.op, .string z.p.nm, .slice z.an z.nn z.nc, .slice z.aa z.p.k z.ac]))
              case first =>
                cases ex
                · have HX1 := Lib.hid (HSA.out _ HX.out.bw)
                  have g9 : eq = !rx := by cases eq <;> cases rx <;> simp at heq ⊢
                  clear heq
                  go_wp2_with fail
                  (with_reducible refine HX1.out.mono ?_)
                  rintro e w6 ⟨rfl, q9⟩
                  have HX := Lib.hid (HX.out.keep q9)
                  cases rx
                  · go_wp2_with fail
                    go_meet
                    case rel => exact ⟨by rw [g9]; rfl, HX⟩
                  · go_wp2_with fail
                    go_meet
                    case rel => exact ⟨by rw [g9]; rfl, HX⟩
                · have HX1 := Lib.hid (HRI.out _ HX.out.bw)
                  have g9 : eq = !rr := by cases eq <;> cases rr <;> simp at heq ⊢
                  clear heq
                  go_wp2_with fail
                  (with_reducible refine HX1.out.mono ?_)
                  rintro e w6 ⟨rfl, q9⟩
                  have HX := Lib.hid (HX.out.keep q9)
                  cases rr
                  · go_wp2_with fail
                    go_meet
                    case rel => exact ⟨by rw [g9]; rfl, HX⟩
                  · go_wp2_with fail
                    go_meet
                    case rel => exact ⟨by rw [g9]; rfl, HX⟩
              case rest =>
                obtain ⟨rfl, HX9⟩ := hcut
                have HX := HX9
                clear e0 e1 e2 e3 e4 e5 e6 e7 e8 e9 e10
                have e0 := cell_blk HX.out.box 0
                have e1 := cell_blk HX.out.box 1
                have e2 := cell_blk HX.out.box 2
                have e3 := cell_blk HX.out.box 3
                have e4 := cell_blk HX.out.box 4
                have e5 := cell_blk HX.out.box 5
                have e6 := cell_blk HX.out.box 6
                have e7 := cell_blk HX.out.box 7
                have e8 := cell_blk HX.out.box 8
                have e9 := cell_blk HX.out.box 9
                have e10 := cell_blk HX.out.box 10
                cases eq
                · have HEQ := Lib.hid heq
                  clear heq
                  by_cases n1 : nl = A
                  · have n2 : ((nl : Int) == (A : Int)) = true := by rw [n1]; exact beq_self_eq_true _
                    by_cases m1 : ml = I
                    · have m2 : ((ml : Int) == (I : Int)) = true := by rw [m1]; exact beq_self_eq_true _
                      obtain rfl : r = q := (by
                        have a := HRC.out
                        have d1 : (gl = false → lo = 0) ∧ (gh = false → hi = 0) ∧ (¬ 114 ∈ sh → lo = 0 ∧ hi = 0 ∧ gl = false ∧ gh = false) := by
                          have b := HBQ.out
                          refine ⟨fun x1 => ?_, fun x1 => ?_, fun x1 => ?_⟩
                          · by_cases y : lo = 0
                            · exact y
                            · exact absurd (b.2 (.inl ⟨x1, y⟩)) (by decide)
                          · by_cases y : hi = 0
                            · exact y
                            · exact absurd (b.2 (.inr (.inl ⟨x1, y⟩))) (by decide)
                          · by_cases y : lo = 0 ∧ hi = 0 ∧ gl = false ∧ gh = false
                            · exact y
                            · refine absurd (b.2 (.inr (.inr ⟨?_, y⟩))) (by decide)
                              cases sc
                              · rfl
                              · exact absurd (HS.out.1 rfl) x1
                        have d2 : (¬ 101 ∈ sh → cm.ex = Lx.leaf []) ∧ (101 ∈ sh → RightL (tour cm.ex 1)) := by
                          have b := HEQ.out
                          refine ⟨fun x1 => HRX.out.1 ?_, fun x1 => HRR.out.1 ?_⟩
                          · cases rx
                            · refine absurd (b.2 (.inl ⟨?_, rfl⟩)) (by decide)
                              cases ex
                              · rfl
                              · exact absurd (HE.out.1 rfl) x1
                            · rfl
                          · cases rr
                            · exact absurd (b.2 (.inr ⟨HE.out.2 x1, rfl⟩)) (by decide)
                            · rfl
                        cases q
                        · cases r
                          · rfl
                          · have c := a.1 rfl
                            exact absurd (HQN.out.2 ⟨c.1, c.2.1⟩) (by decide)
                        · have c := HQN.out.1 rfl
                          exact a.2 ⟨c.1, c.2, n1, m1, d1.1, d1.2.1, d1.2.2, d2.1, d2.2⟩)
                      clear n1 m1
                      cases r
                      · go_wp2_with fail
                        go_returns
                        exact ⟨rfl, HX.out.bw⟩
                      · go_wp2_with fail
                        go_returns
                        exact ⟨rfl, HX.out.bw⟩
                    · have m2 : ((ml : Int) == (I : Int)) = false := by rw [beq_eq_false_iff_ne]; omega
                      obtain rfl : r = false := by
                        cases r
                        · rfl
                        · exact absurd (HRC.out.1 rfl).2.2.2.1 m1
                      clear n1 m1
                      cases q
                      · go_wp2_with fail
                        go_returns
                        exact ⟨rfl, HX.out.bw⟩
                      · go_wp2_with fail
                        go_returns
                        exact ⟨rfl, HX.out.bw⟩
                  · have n2 : ((nl : Int) == (A : Int)) = false := by rw [beq_eq_false_iff_ne]; omega
                    obtain rfl : r = false := by
                      cases r
                      · rfl
                      · exact absurd (HRC.out.1 rfl).2.2.1 n1
                    clear n1
                    cases q
                    · go_wp2_with fail
                      go_returns
                      exact ⟨rfl, HX.out.bw⟩
                    · go_wp2_with fail
                      go_returns
                      exact ⟨rfl, HX.out.bw⟩
                · obtain rfl : r = false := by
                    cases r
                    · rfl
                    · have a := (HRC.out.1 rfl).2.2.2.2.2.2.2
                      rcases heq.1 rfl with ⟨x1, x2⟩ | ⟨x1, x2⟩
                      · exact absurd (HRX.out.2 (a.1 (fun y => by rw [HE.out.2 y] at x1; cases x1))) (by rw [x2]; decide)
                      · exact absurd (HRR.out.2 (a.2 (HE.out.1 x1))) (by rw [x2]; decide)
                  go_wp2_with fail
                  go_returns
                  exact ⟨rfl, HX.out.bw⟩
            · obtain rfl : r = false := by
                cases r
                · rfl
                · have a := (HRC.out.1 rfl).2.2.2.2
                  rcases hbq.1 rfl with ⟨x1, x2⟩ | ⟨x1, x2⟩ | ⟨x1, x2⟩
                  · exact absurd (a.1 x1) x2
                  · exact absurd (a.2.1 x1) x2
                  · exact absurd (a.2.2.1 (fun y => by rw [HS.out.2 y] at x1; cases x1)) x2
              go_wp2_with fail
              go_returns
              exact ⟨rfl, HX.out.bw⟩

namespace Lx
/-! How many words were taken. -/
theorem take_ok {l : List Tk} {s : St} {b : Bool} (h : (take l s b).2.wrong = 0) : s.wrong = 0 ∧ b = true ∧ (take l s b).2.at_ = s.at_ + 1 := by
  unfold take at h ⊢
  by_cases z : s.wrong = 0
  · rw [if_pos z] at h ⊢
    cases b
    · exact absurd (show (110 : Int) = 0 from h) (by decide)
    · exact ⟨z, rfl, rfl⟩
  · rw [if_neg z] at h; exact absurd h z
theorem numsL_len (l : List Tk) : ∀ (n : Nat) (b : List UInt8) (acc : List Int) (s : St), (numsL l n b acc s).2.2.wrong = 0 → s.wrong = 0 ∧ (numsL l n b acc s).2.2.at_ = s.at_ + 2 * n ∧ ∃ r : List Int, (numsL l n b acc s).1 = acc ++ r ∧ r.length = n
  | 0, b, acc, s, h => ⟨h, rfl, [], (List.append_nil _).symm, rfl⟩
  | n + 1, b, acc, s, h => by
    obtain ⟨h1, h2, r, h3, h4⟩ := numsL_len l n [44] (acc ++ [(number l (mark l s b)).1]) (number l (mark l s b)).2 h
    obtain ⟨k1, _, k2⟩ := take_ok h1
    obtain ⟨m1, _, m2⟩ := take_ok k1
    refine ⟨m1, ?_, (number l (mark l s b)).1 :: r, ?_, by rw [List.length_cons, h4]⟩
    · show (numsL l n [44] (acc ++ [(number l (mark l s b)).1]) (number l (mark l s b)).2).2.2.at_ = _
      rw [h2, show (number l (mark l s b)).2.at_ = _ from k2, show (mark l s b).at_ = _ from m2]; omega
    · show (numsL l n [44] (acc ++ [(number l (mark l s b)).1]) (number l (mark l s b)).2).1 = _
      rw [h3, List.append_assoc]; rfl
theorem argsL_len (l : List Tk) (P : St → Ex × St) (hP : ∀ s, s.wrong = 0 → (P s).2.wrong = 0 → (P s).2.at_ = s.at_ + (wordsX (P s).1).length) : ∀ (n : Nat) (b : List UInt8) (acc : List Ex) (s : St), (argsL l P n b acc s).2.2.wrong = 0 → s.wrong = 0 ∧ ∃ r : List Ex, (argsL l P n b acc s).1 = acc ++ r ∧ (argsL l P n b acc s).2.2.at_ = s.at_ + (aW b r).length
  | 0, b, acc, s, h => ⟨h, [], (List.append_nil _).symm, by rw [aW]; rfl⟩
  | n + 1, b, acc, s, h => by
    unfold argsL at h ⊢
    by_cases z : (mark l s b).wrong = 0
    · rw [if_pos z] at h ⊢
      obtain ⟨h1, r, h3, h4⟩ := argsL_len l P hP n [44] _ _ h
      obtain ⟨m1, _, m2⟩ := take_ok z
      refine ⟨m1, (P (mark l s b)).1 :: r, by rw [h3, List.append_assoc]; rfl, ?_⟩
      rw [h4, hP _ z h1, show (mark l s b).at_ = _ from m2, aW, List.length_cons, List.length_append]; omega
    · rw [if_neg z] at h
      exact absurd (argsL_len l P hP n [44] _ _ h).1 z
theorem nW_len2 : ∀ (nu : List Int) (b : List UInt8), (nW b nu).length = 2 * nu.length
  | [], b => rfl
  | z :: r, b => by simp only [nW, List.length_cons, nW_len2 r]; omega
theorem aW_len2 : ∀ (xs : List Ex) (b c : List UInt8), (aW b xs).length = (aW c xs).length
  | [], b, c => by rw [aW, aW]
  | x :: r, b, c => by rw [aW, aW]; rfl
theorem begun_ok2 {l : List Tk} {s : St} (h : (begun l false s).wrong = 0) : s.wrong = 0 := by
  unfold begun at h
  dsimp only at h
  split at h
  · rename_i q; exact q.1
  · exact h
theorem part_len (l : List Tk) : ∀ (k : Nat) (s : St), s.wrong = 0 → (part l k s).2.wrong = 0 → (part l k s).2.at_ = s.at_ + (wordsX (part l k s).1).length
  | 0, s, _, h => by
    have h : (name l (begun l true s)).2.wrong = 0 := h
    obtain ⟨_, _, k2⟩ := take_ok h
    show (name l (begun l true s)).2.at_ = _
    rw [show (name l (begun l true s)).2.at_ = _ from k2]
    have e : wordsX (part l 0 s).1 = [(1, (name l (begun l true s)).1, 0)] := words_leaf rfl
    rw [e]; rfl
  | k + 1, s, hs, h => by
    unfold part at h ⊢
    split at h
    · rename_i c
      rw [if_pos c]
      obtain ⟨_, _, k2⟩ := take_ok c.1
      have k2 : (name l (begun l false s)).2.at_ = s.at_ + 1 := k2
      unfold operands at h ⊢
      dsimp only at h ⊢
      obtain ⟨m1, _, m2⟩ := take_ok h
      have m2 : (mark l (opB l (part l k) (opN (name l (begun l false s)).1) (name l (begun l false s)).2).2.2 [41]).at_ = (opB l (part l k) (opN (name l (begun l false s)).1) (name l (begun l false s)).2).2.2.at_ + 1 := m2
      obtain ⟨a1, r, a2, a3⟩ := argsL_len l (part l k) (fun s q1 q2 => part_len l k s q1 q2) _ _ _ _ m1
      obtain ⟨b1, b2, r', b3, b4⟩ := numsL_len l _ _ _ _ a1
      have a3 : (opB l (part l k) (opN (name l (begun l false s)).1) (name l (begun l false s)).2).2.2.at_ = _ := a3
      have a2 : (opB l (part l k) (opN (name l (begun l false s)).1) (name l (begun l false s)).2).1 = [] ++ r := a2
      have b3 : (opA l (opN (name l (begun l false s)).1) (name l (begun l false s)).2).1 = [] ++ r' := b3
      have b2 : (opA l (opN (name l (begun l false s)).1) (name l (begun l false s)).2).2.2.at_ = _ := b2
      rw [m2, a3, b2, k2, a2, b3, List.nil_append, List.nil_append]
      have ho : ¬ ((opN (name l (begun l false s)).1 : Nat) : Int) = 0 := by have := c.2.1; omega
      rw [wordsX, if_neg ho]
      simp only [List.length_cons, List.length_append, List.length_nil, nW_len2]
      rw [b4, aW_len2 r _ (sepN [40] r')]; omega
    · rename_i c
      rw [if_neg c]
      obtain ⟨_, _, k2⟩ := take_ok (show (take l (begun l false s) _).2.wrong = 0 from h)
      show (name l (begun l false s)).2.at_ = _
      rw [show (name l (begun l false s)).2.at_ = _ from k2]
      have e : wordsX (leaf (name l (begun l false s)).1) = [(1, (name l (begun l false s)).1, 0)] := words_leaf rfl
      rw [e]; rfl
theorem endE_len {l : List Tk} {s : St} (h : (endE l s).2.wrong = 0) : s.wrong = 0 ∧ (endE l s).2.at_ = s.at_ + (if (endE l s).1.2 = true then 1 else 0) := by
  unfold endE at h ⊢
  split at h
  · rename_i c; rw [if_pos c]; exact ⟨h, rfl⟩
  · rename_i c
    rw [if_neg c]
    obtain ⟨k1, _, k2⟩ := take_ok (show (take l s _).2.wrong = 0 from h)
    exact ⟨k1, k2⟩
theorem span_len {l : List Tk} {s : St} (h : (span l s).2.wrong = 0) : s.wrong = 0 ∧ (span l s).2.at_ = s.at_ + (rgW (span l s).1).length := by
  unfold span at h ⊢
  dsimp only at h ⊢
  obtain ⟨m1, _, m2⟩ := take_ok (show (take l (rgB l s).2 _).2.wrong = 0 from h)
  obtain ⟨b1, b2⟩ := endE_len (show (endE l (mark l (rgA l s).2 [58])).2.wrong = 0 from m1)
  obtain ⟨c1, _, c2⟩ := take_ok (show (take l (rgA l s).2 _).2.wrong = 0 from b1)
  obtain ⟨d1, d2⟩ := endE_len (show (endE l (mark l s [91])).2.wrong = 0 from c1)
  obtain ⟨f1, _, f2⟩ := take_ok (show (take l s _).2.wrong = 0 from d1)
  refine ⟨f1, ?_⟩
  have m2 : (mark l (rgB l s).2 [93]).at_ = (rgB l s).2.at_ + 1 := m2
  have b2 : (rgB l s).2.at_ = (mark l (rgA l s).2 [58]).at_ + (if (rgB l s).1.2 = true then 1 else 0) := b2
  have c2 : (mark l (rgA l s).2 [58]).at_ = (rgA l s).2.at_ + 1 := c2
  have d2 : (rgA l s).2.at_ = (mark l s [91]).at_ + (if (rgA l s).1.2 = true then 1 else 0) := d2
  have f2 : (mark l s [91]).at_ = s.at_ + 1 := f2
  rw [m2, b2, c2, d2, f2]
  unfold rgW
  dsimp only
  cases (rgA l s).1.2 <;> cases (rgB l s).1.2 <;> simp
/-- Ranges and expressions come last. -/
def Last : List UInt8 → Prop
  | [] => True
  | x :: r => (x = 110 ∨ x = 105 ∨ x = 61 ∨ ((x = 101 ∨ x = 114) ∧ r = [])) ∧ Last r
theorem shape_last {sh : List UInt8} (h : sh ∈ shapesL) : Last sh := by
  unfold shapesL at h
  simp only [List.mem_cons, List.not_mem_nil, or_false] at h
  rcases h with rfl | rfl | rfl | rfl | rfl | rfl | rfl | rfl | rfl <;> simp [Last]
theorem step_len {l : List Tk} {c : Cm × St} {x : UInt8} (hx : x = 110 ∨ x = 105 ∨ x = 101 ∨ x = 61 ∨ x = 114) (h : (stepC l c x).2.wrong = 0) : c.2.wrong = 0 ∧ ∀ a b, (stepC l c x).2.at_ = c.2.at_ + (letW (stepC l c x).1 x a b).length := by
  rcases hx with rfl | rfl | rfl | rfl | rfl
  · obtain ⟨k1, _, k2⟩ := take_ok (show (take l c.2 _).2.wrong = 0 from h)
    exact ⟨k1, fun a b => k2⟩
  · obtain ⟨k1, _, k2⟩ := take_ok (show (take l c.2 _).2.wrong = 0 from h)
    exact ⟨k1, fun a b => k2⟩
  · have h : (part l 40 c.2).2.wrong = 0 := h
    have hz : c.2.wrong = 0 := by
      by_cases z : c.2.wrong = 0
      · exact z
      · exact absurd (((part_on l 40 c.2).stay z).2.symm.trans h) z
    exact ⟨hz, fun a b => part_len l 40 c.2 hz h⟩
  · obtain ⟨k1, _, k2⟩ := take_ok (show (take l c.2 _).2.wrong = 0 from h)
    exact ⟨k1, fun a b => k2⟩
  · obtain ⟨k1, k2⟩ := span_len (show (span l c.2).2.wrong = 0 from h)
    exact ⟨k1, fun a b => k2⟩
theorem steps_len {l : List Tk} : ∀ (sh : List UInt8) (c : Cm × St), Last sh → (sh.foldl (stepC l) c).2.wrong = 0 → c.2.wrong = 0 ∧ ∀ a b, (sh.foldl (stepC l) c).2.at_ = c.2.at_ + (shW (sh.foldl (stepC l) c).1 sh a b).length
  | [], c, _, h => ⟨h, fun a b => by rw [shW]; rfl⟩
  | x :: r, c, hl, h => by
    have h : (r.foldl (stepC l) (stepC l c x)).2.wrong = 0 := h
    obtain ⟨h1, h2⟩ := steps_len r (stepC l c x) hl.2 h
    obtain ⟨k1, k2⟩ := step_len (by rcases hl.1 with e | e | e | ⟨e | e, _⟩ <;> simp [e]) h1
    refine ⟨k1, fun a b => ?_⟩
    show (r.foldl (stepC l) (stepC l c x)).2.at_ = _ + (shW (r.foldl (stepC l) (stepC l c x)).1 (x :: r) a b).length
    have e : (letW (r.foldl (stepC l) (stepC l c x)).1 x a b).length = (letW (stepC l c x).1 x a b).length := by
      rcases hl.1 with rfl | rfl | rfl | ⟨_, rfl⟩
      · rfl
      · rfl
      · rfl
      · rfl
    rw [h2 (a + upN x) (b + upI x), k2 a b, shW, List.length_append, e]; omega
theorem step_word (l : List Tk) (c : Cm × St) (x : UInt8) : (stepC l c x).1.word = c.1.word := by
  unfold stepC; split
  · rfl
  · split
    · rfl
    · split
      · rfl
      · split <;> rfl
theorem steps_word (l : List Tk) : ∀ (sh : List UInt8) (c : Cm × St), (sh.foldl (stepC l) c).1.word = c.1.word
  | [], c => rfl
  | x :: r, c => (steps_word l r _).trans (step_word l c x)
/-- What was read whole says its first word, and how many there were. -/
theorem cm_whole {l : List Tk} (h : (cmE l).2.2 = 0) : (tkAt l 0).1 = 1 ∧ (cmE l).1.word = (tkAt l 0).2.1 ∧ ∃ sh, shape (cmE l).1.word = some sh ∧ l.length = (toldC (cmE l).1 sh).length := by
  unfold cmE at h ⊢
  split at h
  · exact absurd (show (110 : Int) = 0 from h) (by decide)
  · rename_i sh hsh
    split at h
    · exact absurd (show (110 : Int) = 0 from h) (by decide)
    · rename_i hw
      have hw : (name l ⟨0, 0, 0⟩).2.wrong = 0 := by
        by_cases z : (name l ⟨0, 0, 0⟩).2.wrong = 0
        · exact z
        · exact absurd z hw
      obtain ⟨_, n1, n2⟩ := take_ok (show (take l ⟨0, 0, 0⟩ _).2.wrong = 0 from hw)
      have n1 : (tkAt l 0).1 = 1 := of_decide_eq_true n1
      have n2 : (name l ⟨0, 0, 0⟩).2.at_ = 1 := n2
      have n3 : (name l ⟨0, 0, 0⟩).1 = (tkAt l 0).2.1 := by
        unfold name take; rw [if_pos rfl, show isNm l (⟨0, 0, 0⟩ : St).at_ = true from decide_eq_true n1, if_pos rfl]
      obtain ⟨F, hF⟩ : ∃ F, sh.foldl (stepC l) (⟨(name l ⟨0, 0, 0⟩).1, [], [], ⟨0, 0, false, false⟩, leaf []⟩, (name l ⟨0, 0, 0⟩).2) = F := ⟨_, rfl⟩
      have ho := steps_on l sh (⟨(name l ⟨0, 0, 0⟩).1, [], [], ⟨0, 0, false, false⟩, leaf []⟩, (name l ⟨0, 0, 0⟩).2)
      have hwd := steps_word l sh (⟨(name l ⟨0, 0, 0⟩).1, [], [], ⟨0, 0, false, false⟩, leaf []⟩, (name l ⟨0, 0, 0⟩).2)
      have hln := steps_len (l := l) sh (⟨(name l ⟨0, 0, 0⟩).1, [], [], ⟨0, 0, false, false⟩, leaf []⟩, (name l ⟨0, 0, 0⟩).2) (shape_last (shape_in hsh))
      rw [hF] at h ho hwd hln
      rw [if_neg (fun z => z hw), hF]
      unfold told at h ⊢
      split at h
      · rename_i q
        rw [if_pos q]
        dsimp only
        have q2 : F.2.wrong = 0 ∧ ¬ F.2.at_ < l.length := by
          unfold failed at q
          split at q
          · exact absurd (show (110 : Int) = 0 from q) (by decide)
          · rename_i c; exact ⟨q, fun z => c ⟨q, z⟩⟩
        have top := ho.top (by show (name l ⟨0, 0, 0⟩).2.at_ ≤ _; rw [n2]; have := tkAt_lt (l := l) (i := 0) (by rw [n1]; decide); omega)
        have a1 := (hln q2.1).2 0 0
        have a1 : F.2.at_ = (name l ⟨0, 0, 0⟩).2.at_ + (shW F.1 sh 0 0).length := a1
        have hwd : F.1.word = (name l ⟨0, 0, 0⟩).1 := hwd
        refine ⟨n1, hwd.trans n3, sh, by rw [hwd]; exact hsh, ?_⟩
        unfold toldC
        rw [List.length_cons]
        have := q2.2
        have top : F.2.at_ ≤ l.length := top
        omega
      · rename_i q; exact absurd h q
end Lx

namespace Lx
theorem isNu_ok {l : List Tk} {i : Nat} {z : Int} (h : tkAt l i = (2, [], z)) : isNu l i = true := by unfold isNu; rw [h]; rfl
theorem isNu_mk {l : List Tk} {i : Nat} {b : List UInt8} (h : tkAt l i = (4, b, 0)) : isNu l i = false := by unfold isNu; rw [h]; rfl
theorem span_read {l : List Tk} {s : St} {r : Rg} (hw : s.wrong = 0) (h : At l s.at_ (rgW r)) (h1 : r.hl = false → r.low = 0) (h2 : r.hh = false → r.high = 0) : span l s = (r, ⟨s.at_ + (rgW r).length, s.parts, 0⟩) := by
  obtain ⟨lo, hi, gl, gh⟩ := r
  dsimp only at h1 h2
  unfold rgW at h ⊢
  dsimp only at h ⊢
  cases gl
  · obtain rfl := h1 rfl
    rw [if_neg (by decide), List.nil_append] at h ⊢
    obtain ⟨t0, h⟩ := At.cons h
    obtain ⟨t1, h⟩ := At.cons h
    have e1 := mark_ok hw t0
    have e2 : rgA l s = ((0, false), ⟨s.at_ + 1, s.parts, 0⟩) := by unfold rgA endE; rw [e1]; exact if_pos (.inr (isNu_mk t1))
    have e3 : mark l (rgA l s).2 [58] = ⟨s.at_ + 1 + 1, s.parts, 0⟩ := by rw [e2]; exact mark_ok rfl t1
    cases gh
    · obtain rfl := h2 rfl
      rw [if_neg (by decide), List.nil_append] at h ⊢
      obtain ⟨t2, _⟩ := At.cons h
      have e4 : rgB l s = ((0, false), ⟨s.at_ + 1 + 1, s.parts, 0⟩) := by unfold rgB endE; rw [e3]; exact if_pos (.inr (isNu_mk t2))
      have e5 : mark l (rgB l s).2 [93] = ⟨s.at_ + 1 + 1 + 1, s.parts, 0⟩ := by rw [e4]; exact mark_ok rfl t2
      unfold span; rw [e5, e4, e2]; rfl
    · rw [if_pos rfl] at h ⊢
      obtain ⟨t2, h⟩ := At.cons h
      obtain ⟨t3, _⟩ := At.cons h
      have e4 : rgB l s = ((hi, true), ⟨s.at_ + 1 + 1 + 1, s.parts, 0⟩) := by
        unfold rgB endE; rw [e3, if_neg (by rw [isNu_ok t2]; simp), number_ok rfl t2]
      have e5 : mark l (rgB l s).2 [93] = ⟨s.at_ + 1 + 1 + 1 + 1, s.parts, 0⟩ := by rw [e4]; exact mark_ok rfl t3
      unfold span; rw [e5, e4, e2]; rfl
  · rw [if_pos rfl] at h ⊢
    obtain ⟨t0, h⟩ := At.cons h
    obtain ⟨t1, h⟩ := At.cons h
    obtain ⟨t2, h⟩ := At.cons h
    have e1 := mark_ok hw t0
    have e2 : rgA l s = ((lo, true), ⟨s.at_ + 1 + 1, s.parts, 0⟩) := by
      unfold rgA endE; rw [e1, if_neg (by rw [isNu_ok t1]; simp), number_ok rfl t1]
    have e3 : mark l (rgA l s).2 [58] = ⟨s.at_ + 1 + 1 + 1, s.parts, 0⟩ := by rw [e2]; exact mark_ok rfl t2
    cases gh
    · obtain rfl := h2 rfl
      rw [if_neg (by decide), List.nil_append] at h ⊢
      obtain ⟨t3, _⟩ := At.cons h
      have e4 : rgB l s = ((0, false), ⟨s.at_ + 1 + 1 + 1, s.parts, 0⟩) := by unfold rgB endE; rw [e3]; exact if_pos (.inr (isNu_mk t3))
      have e5 : mark l (rgB l s).2 [93] = ⟨s.at_ + 1 + 1 + 1 + 1, s.parts, 0⟩ := by rw [e4]; exact mark_ok rfl t3
      unfold span; rw [e5, e4, e2]; rfl
    · rw [if_pos rfl] at h ⊢
      obtain ⟨t3, h⟩ := At.cons h
      obtain ⟨t4, _⟩ := At.cons h
      have e4 : rgB l s = ((hi, true), ⟨s.at_ + 1 + 1 + 1 + 1, s.parts, 0⟩) := by
        unfold rgB endE; rw [e3, if_neg (by rw [isNu_ok t3]; simp), number_ok rfl t3]
      have e5 : mark l (rgB l s).2 [93] = ⟨s.at_ + 1 + 1 + 1 + 1 + 1, s.parts, 0⟩ := by rw [e4]; exact mark_ok rfl t4
      unfold span; rw [e5, e4, e2]; rfl
/-- What the rest of a shape reads. -/
theorem steps_read (l : List Tk) (c : Cm) (h1 : c.rg.hl = false → c.rg.low = 0) (h2 : c.rg.hh = false → c.rg.high = 0) : ∀ (sh : List UInt8) (a b : Nat) (c0 : Cm) (s : St), Last sh → s.wrong = 0 → At l s.at_ (shW c sh a b) → a + cN sh = c.names.length → b + cI sh = c.nums.length → (101 ∈ sh → Ok 40 c.ex ∧ s.parts + cnt c.ex ≤ 2000 ∧ l.length = s.at_ + (shW c sh a b).length) →
    ∃ p, sh.foldl (stepC l) (c0, s) = (⟨c0.word, c0.names ++ c.names.drop a, c0.nums ++ c.nums.drop b, if 114 ∈ sh then c.rg else c0.rg, if 101 ∈ sh then c.ex else c0.ex⟩, ⟨s.at_ + (shW c sh a b).length, p, 0⟩)
  | [], a, b, c0, s, _, hw, _, ha, hb, _ => by
    refine ⟨s.parts, ?_⟩
    have ha : a = c.names.length := ha
    have hb : b = c.nums.length := hb
    rw [List.drop_of_length_le (by omega), List.drop_of_length_le (by omega), List.append_nil, List.append_nil, if_neg (by simp), if_neg (by simp), shW]
    show (c0, s) = (c0, (⟨s.at_ + 0, s.parts, 0⟩ : St))
    rw [← hw]; rfl
  | x :: r, a, b, c0, s, hl, hw, hA, ha, hb, hx => by
    rw [shW] at hA hx ⊢
    obtain ⟨hA1, hA2⟩ := At.app hA
    rw [cN] at ha
    rw [cI] at hb
    rw [List.length_append] at hx ⊢
    show ∃ p, r.foldl (stepC l) (stepC l (c0, s) x) = _
    rcases hl.1 with rfl | rfl | rfl | ⟨rfl | rfl, rfl⟩
    · -- a name
      have u1 : upN 110 = 1 := rfl
      have u2 : upI 110 = 0 := rfl
      rw [u1] at ha hA2 hx ⊢
      rw [u2] at hb hA2 hx ⊢
      simp only [Nat.add_zero] at hA2 hx ⊢
      have lt : a < c.names.length := by omega
      have eL : letW c 110 a b = [(1, c.names[a], 0)] := by
        show [((1, c.names.getD a [], 0) : Tk)] = _
        rw [List.getD_eq_getElem?_getD, List.getElem?_eq_getElem lt]; rfl
      rw [eL] at hA1 hA2 hx ⊢
      obtain ⟨t0, _⟩ := At.cons hA1
      have e1 : stepC l (c0, s) 110 = (⟨c0.word, c0.names ++ [c.names[a]], c0.nums, c0.rg, c0.ex⟩, ⟨s.at_ + 1, s.parts, 0⟩) := by
        show ((⟨c0.word, c0.names ++ [(name l s).1], c0.nums, c0.rg, c0.ex⟩ : Cm), (name l s).2) = _
        rw [name_ok hw t0]
      rw [e1]
      obtain ⟨p, ih⟩ := steps_read l c h1 h2 r (a + 1) b ⟨c0.word, c0.names ++ [c.names[a]], c0.nums, c0.rg, c0.ex⟩ ⟨s.at_ + 1, s.parts, 0⟩ hl.2 rfl hA2 (by omega) (by omega) (fun q => by
        have := hx (List.mem_cons_of_mem _ q); exact ⟨this.1, this.2.1, by rw [this.2.2]; show _ = s.at_ + 1 + _; simp only [List.length_cons, List.length_nil]; omega⟩)
      refine ⟨p, ?_⟩
      rw [ih, List.append_assoc]
      have ed : [c.names[a]] ++ c.names.drop (a + 1) = c.names.drop a := by rw [List.singleton_append, ← List.drop_eq_getElem_cons lt]
      rw [ed]
      have m1 : (114 ∈ (110 :: r : List UInt8)) = (114 ∈ r) := by simp
      have m2 : (101 ∈ (110 :: r : List UInt8)) = (101 ∈ r) := by simp
      simp only [m1, m2, List.length_cons, List.length_nil]
      rw [show s.at_ + 1 + (shW c r (a + 1) b).length = s.at_ + (0 + 1 + (shW c r (a + 1) b).length) by omega]
    · -- a number
      have u1 : upN 105 = 0 := rfl
      have u2 : upI 105 = 1 := rfl
      rw [u1] at ha hA2 hx ⊢
      rw [u2] at hb hA2 hx ⊢
      simp only [Nat.add_zero] at hA2 hx ⊢
      have lt : b < c.nums.length := by omega
      have eL : letW c 105 a b = [(2, [], c.nums[b])] := by
        show [((2, [], c.nums.getD b 0) : Tk)] = _
        rw [List.getD_eq_getElem?_getD, List.getElem?_eq_getElem lt]; rfl
      rw [eL] at hA1 hA2 hx ⊢
      obtain ⟨t0, _⟩ := At.cons hA1
      have e1 : stepC l (c0, s) 105 = (⟨c0.word, c0.names, c0.nums ++ [c.nums[b]], c0.rg, c0.ex⟩, ⟨s.at_ + 1, s.parts, 0⟩) := by
        show ((⟨c0.word, c0.names, c0.nums ++ [(number l s).1], c0.rg, c0.ex⟩ : Cm), (number l s).2) = _
        rw [number_ok hw t0]
      rw [e1]
      obtain ⟨p, ih⟩ := steps_read l c h1 h2 r a (b + 1) ⟨c0.word, c0.names, c0.nums ++ [c.nums[b]], c0.rg, c0.ex⟩ ⟨s.at_ + 1, s.parts, 0⟩ hl.2 rfl hA2 (by omega) (by omega) (fun q => by
        have := hx (List.mem_cons_of_mem _ q); exact ⟨this.1, this.2.1, by rw [this.2.2]; show _ = s.at_ + 1 + _; simp only [List.length_cons, List.length_nil]; omega⟩)
      refine ⟨p, ?_⟩
      rw [ih, List.append_assoc]
      have ed : [c.nums[b]] ++ c.nums.drop (b + 1) = c.nums.drop b := by rw [List.singleton_append, ← List.drop_eq_getElem_cons lt]
      rw [ed]
      have m1 : (114 ∈ (105 :: r : List UInt8)) = (114 ∈ r) := by simp
      have m2 : (101 ∈ (105 :: r : List UInt8)) = (101 ∈ r) := by simp
      simp only [m1, m2, List.length_cons, List.length_nil]
      rw [show s.at_ + 1 + (shW c r a (b + 1)).length = s.at_ + (0 + 1 + (shW c r a (b + 1)).length) by omega]
    · -- the mark =
      have u1 : upN 61 = 0 := rfl
      have u2 : upI 61 = 0 := rfl
      rw [u1] at ha hA2 hx ⊢
      rw [u2] at hb hA2 hx ⊢
      simp only [Nat.add_zero] at hA2 hx ⊢
      have eL : letW c 61 a b = [(4, [61], 0)] := rfl
      rw [eL] at hA1 hA2 hx ⊢
      obtain ⟨t0, _⟩ := At.cons hA1
      have e1 : stepC l (c0, s) 61 = (c0, ⟨s.at_ + 1, s.parts, 0⟩) := by
        show (c0, mark l s [61]) = _
        rw [mark_ok hw t0]
      rw [e1]
      obtain ⟨p, ih⟩ := steps_read l c h1 h2 r a b c0 ⟨s.at_ + 1, s.parts, 0⟩ hl.2 rfl hA2 (by omega) (by omega) (fun q => by
        have := hx (List.mem_cons_of_mem _ q); exact ⟨this.1, this.2.1, by rw [this.2.2]; show _ = s.at_ + 1 + _; simp only [List.length_cons, List.length_nil]; omega⟩)
      refine ⟨p, ?_⟩
      rw [ih]
      have m1 : (114 ∈ (61 :: r : List UInt8)) = (114 ∈ r) := by simp
      have m2 : (101 ∈ (61 :: r : List UInt8)) = (101 ∈ r) := by simp
      simp only [m1, m2, List.length_cons, List.length_nil]
      rw [show s.at_ + 1 + (shW c r a b).length = s.at_ + (0 + 1 + (shW c r a b).length) by omega]
    · -- an expression, the last
      have u1 : upN 101 = 0 := rfl
      have u2 : upI 101 = 0 := rfl
      rw [u1] at ha
      rw [u2] at hb
      have ha : 0 + 0 + a = c.names.length := by rw [cN] at ha; omega
      have hb : 0 + 0 + b = c.nums.length := by rw [cI] at hb; omega
      have eL : letW c 101 a b = wordsX c.ex := rfl
      rw [eL] at hA1 hx ⊢
      obtain ⟨x1, x2, x3⟩ := hx List.mem_cons_self
      rw [shW, List.length_nil, Nat.add_zero] at x3 ⊢
      have ep := part_read 40 c.ex x1 l s hw x2 hA1 (fun z => by
        have e : (wordsX c.ex).length = 1 := by rw [words_leaf z]; rfl
        rw [e] at x3
        unfold isMk; rw [← x3, tkAt_end]; rfl)
      refine ⟨s.parts + cnt c.ex, ?_⟩
      show stepC l (c0, s) 101 = _
      have e1 : stepC l (c0, s) 101 = (⟨c0.word, c0.names, c0.nums, c0.rg, (part l 40 s).1⟩, (part l 40 s).2) := rfl
      rw [e1, ep, List.drop_of_length_le (by omega), List.drop_of_length_le (by omega), List.append_nil, List.append_nil, if_neg (by decide), if_pos (by decide)]
    · -- a range, the last
      have u1 : upN 114 = 0 := rfl
      have u2 : upI 114 = 0 := rfl
      rw [u1] at ha
      rw [u2] at hb
      have ha : 0 + 0 + a = c.names.length := by rw [cN] at ha; omega
      have hb : 0 + 0 + b = c.nums.length := by rw [cI] at hb; omega
      have eL : letW c 114 a b = rgW c.rg := rfl
      rw [eL] at hA1 ⊢
      rw [shW, List.length_nil, Nat.add_zero]
      refine ⟨s.parts, ?_⟩
      show stepC l (c0, s) 114 = _
      have e1 : stepC l (c0, s) 114 = (⟨c0.word, c0.names, c0.nums, (span l s).1, c0.ex⟩, (span l s).2) := rfl
      rw [e1, span_read hw hA1 h1 h2, List.drop_of_length_le (by omega), List.drop_of_length_le (by omega), List.append_nil, List.append_nil, if_pos (by decide), if_neg (by decide)]
end Lx
/-- The words of a right command are that command. -/
theorem cm_back {c : Lx.Cm} (h : RightC c) (hf : ∀ y ∈ tour c.ex 1, Fine y.1) {sh : List UInt8} (hs : Lx.shape c.word = some sh) : Lx.cmE (Lx.toldC c sh) = (c, -1, 0) := by
  have hg : (Lx.shape c.word).getD [] = sh := by rw [hs]; rfl
  obtain ⟨_, _, a3, a4, a5, a6, a7, a8, a9⟩ := h
  rw [hg] at a3 a4 a7 a8 a9
  obtain ⟨l, hl⟩ : ∃ l, Lx.toldC c sh = l := ⟨_, rfl⟩
  have hA : Lx.At l 0 ((1, c.word, 0) :: Lx.shW c sh 0 0) := by
    have := Lx.at_self (Lx.toldC c sh) []
    rw [List.append_nil, hl] at this
    rw [← hl] at this ⊢; exact this
  obtain ⟨t0, hA2⟩ := Lx.At.cons hA
  have hlen : l.length = 1 + (Lx.shW c sh 0 0).length := by rw [← hl]; unfold Lx.toldC; rw [List.length_cons]; omega
  have en := Lx.name_ok (l := l) (s := ⟨0, 0, 0⟩) rfl t0
  obtain ⟨p, hp⟩ := Lx.steps_read l c a5 a6 sh 0 0 ⟨c.word, [], [], ⟨0, 0, false, false⟩, Lx.leaf []⟩ ⟨1, 0, 0⟩ (Lx.shape_last (Lx.shape_in hs)) rfl hA2 (by omega) (by omega) (fun q => by
    have := right_ok (a9 q) hf
    exact ⟨this.1, by show 0 + _ ≤ 2000; have := this.2; omega, hlen⟩)
  have e1 : (if 114 ∈ sh then c.rg else (⟨0, 0, false, false⟩ : Lx.Rg)) = c.rg := by
    split
    · rfl
    · rename_i q; exact (a7 q).symm
  have e2 : (if 101 ∈ sh then c.ex else Lx.leaf []) = c.ex := by
    split
    · rfl
    · rename_i q; exact (a8 q).symm
  dsimp only at hp
  rw [e1, e2, List.drop_zero, List.drop_zero, List.nil_append, List.nil_append] at hp
  rw [hl]
  unfold Lx.cmE
  rw [en]
  dsimp only
  rw [hs]
  dsimp only
  rw [if_neg (by decide), hp]
  unfold Lx.told
  have ef : Lx.failed l ⟨1 + (Lx.shW c sh 0 0).length, p, 0⟩ = ⟨1 + (Lx.shW c sh 0 0).length, p, 0⟩ := by
    unfold Lx.failed; exact if_neg (fun z => by have := z.2; dsimp only at this; omega)
  dsimp only
  rw [ef, if_pos rfl]

theorem cmd_cg (w : World) (ao : Option Addr) (n c : Nat) (l : List Lx.Tk) (hA : TkAt w ao n c l) (hB : Lx.TkB l) (hT : Tabn w) (hW : Tabw w) :
    Calls Tryd.prog 15 #[.slice ao n c] w fun e w' => ∃ g : Cg, e = .returned (.tuple #[.agg #[.string g.wb, .slice g.an g.nl g.nc, .slice g.am g.ml g.mc, .int .i64 g.lo, .int .i64 g.hi, .bool g.hl, .bool g.hh, .int .u8 g.z.p.op, .string g.z.p.nm, .slice g.z.an g.z.nn g.z.nc, .slice g.z.aa g.z.p.k g.z.ac], .int .i64 (Lx.cmE l).2.1, .int .i64 (Lx.cmE l).2.2]) ∧ Hid (Below w.heap.size w w') ∧ Hid (CG w' 41 (Lx.cmE l).1 g) :=
  (cmd_flat w ao n c l hA hB hT hW).mono (by
    rintro e w' ⟨wb, an, nl, k1, am, ml, k2, y3, y4, y5, y6, z, rfl, hb, hc⟩
    exact ⟨⟨wb, an, nl, k1, am, ml, k2, y3, y4, y5, y6, z⟩, rfl, hb, Lib.hid ⟨hc.out.word, (hc.out.nn.sub only_all).gen, hc.out.mm.sub only_all, hc.out.rg, hc.out.ex.sub only_all⟩⟩)
theorem csame_flat (w : World) (D D' : Nat) (cm cn : Lx.Cm) (g h : Cg) (hg : CG w D cm g) (hh : CG w D' cn h) (r : Bool) (hr : r = true ↔ cm = cn) :
    Calls Tryd.prog 18 #[.agg #[.string g.wb, .slice g.an g.nl g.nc, .slice g.am g.ml g.mc, .int .i64 g.lo, .int .i64 g.hi, .bool g.hl, .bool g.hh, .int .u8 g.z.p.op, .string g.z.p.nm, .slice g.z.an g.z.nn g.z.nc, .slice g.z.aa g.z.p.k g.z.ac], .agg #[.string h.wb, .slice h.an h.nl h.nc, .slice h.am h.ml h.mc, .int .i64 h.lo, .int .i64 h.hi, .bool h.hl, .bool h.hh, .int .u8 h.z.p.op, .string h.z.p.nm, .slice h.z.an h.z.nn h.z.nc, .slice h.z.aa h.z.p.k h.z.ac]] w fun e w' => e = .returned (.bool r) ∧ Below w.heap.size w w' := csame_any w D D' cm cn g h hg hh r hr
theorem TkAt.drop1 {w : World} {b p n c : Nat} {l : List Lx.Tk} (h : TkAt w (some ⟨b, p, none⟩) n c l) (h0 : 0 < n) : TkAt w (some ⟨b, p + 3, none⟩) (n - 1) (c - 1) (l.drop 1) :=
  ⟨by rw [List.length_drop, h.len], by have := h.le; omega, by have := h.top; omega, (fun e => by cases e), fun h1 => by
    obtain ⟨b', p', e, hc⟩ := h.here h0
    cases e
    refine ⟨b, p + 3, rfl, fun i hi => ?_⟩
    have hi2 : 1 + i < l.length := by rw [List.length_drop] at hi; omega
    have := hc (1 + i) hi2
    rw [List.getElem_drop]
    rw [show p + 3 + i * 3 = p + (1 + i) * 3 by omega]
    exact this⟩
theorem TkAt.drop0 {w : World} {b p c : Nat} {l : List Lx.Tk} (h : TkAt w (some ⟨b, p, none⟩) 1 c l) : TkAt w (some ⟨b, p, none⟩) 0 0 (l.drop 1) :=
  ⟨by rw [List.length_drop, h.len], Nat.le_refl _, by omega, (fun e => by cases e), fun h1 => absurd h1 (by omega)⟩
theorem tkb_drop {l : List Lx.Tk} (h : Lx.TkB l) (m : Nat) : Lx.TkB (l.drop m) := fun t ht => h t (List.mem_of_mem_drop ht)
theorem tkb_told {cm : Lx.Cm} {sh : List UInt8} (h1 : cm.word.length ≤ maxLen) (h2 : ∀ x ∈ cm.names, x.length ≤ maxLen) (h3 : ∀ z ∈ cm.nums, -9223372036854775808 ≤ z ∧ z ≤ 9223372036854775807) (h4 : (-9223372036854775808 ≤ cm.rg.low ∧ cm.rg.low ≤ 9223372036854775807) ∧ (-9223372036854775808 ≤ cm.rg.high ∧ cm.rg.high ≤ 9223372036854775807)) (h5 : 101 ∈ sh → Lx.TkB (Lx.wordsX cm.ex)) : Lx.TkB (Lx.toldC cm sh) := by
  refine tkb_one (by decide) h1 (by decide) ?_
  have hl : ∀ x a b, (x = 101 → Lx.TkB (Lx.wordsX cm.ex)) → Lx.TkB (Lx.letW cm x a b) := by
    intro x a b hx
    unfold Lx.letW
    split
    · refine tkb_one (by decide) ?_ (by decide) tkb_nil
      rw [List.getD_eq_getElem?_getD]
      cases e : cm.names[a]? with
      | none => exact Nat.zero_le _
      | some y => exact h2 y (List.mem_of_getElem? e)
    · split
      · refine tkb_one (by decide) (Nat.zero_le _) ?_ tkb_nil
        rw [List.getD_eq_getElem?_getD]
        cases e : cm.nums[b]? with
        | none => decide
        | some y => exact h3 y (List.mem_of_getElem? e)
      · split
        · rename_i e; exact hx e
        · split
          · exact tkb_one (by decide) (by decide) (by decide) tkb_nil
          · unfold Lx.rgW
            refine tkb_one (by decide) (by decide) (by decide) (tkb_app ?_ (tkb_one (by decide) (by decide) (by decide) (tkb_app ?_ (tkb_one (by decide) (by decide) (by decide) tkb_nil))))
            · split
              · exact tkb_one (by decide) (Nat.zero_le _) h4.1 tkb_nil
              · exact tkb_nil
            · split
              · exact tkb_one (by decide) (Nat.zero_le _) h4.2 tkb_nil
              · exact tkb_nil
  have : ∀ (p : List UInt8) (a b : Nat), (101 ∈ p → Lx.TkB (Lx.wordsX cm.ex)) → Lx.TkB (Lx.shW cm p a b) := by
    intro p
    induction p with
    | nil => intro a b _; rw [Lx.shW]; exact tkb_nil
    | cons x r ih => intro a b hx; rw [Lx.shW]; exact tkb_app (hl x a b (fun e => hx (by rw [e]; exact List.mem_cons_self))) (ih _ _ (fun e => hx (List.mem_cons_of_mem _ e)))
  exact this sh 0 0 h5

structure Pm (w W : World) (b : Nat) (g : Cg) : Prop where
  bw : Below w.heap.size w W
  h2 : W.heap[b]? = some (.cells #[.string g.wb, .slice g.an g.nl g.nc, .slice g.am g.ml g.mc, .int .i64 g.lo, .int .i64 g.hi, .bool g.hl, .bool g.hh, .int .u8 g.z.p.op, .string g.z.p.nm, .slice g.z.an g.z.nn g.z.nc, .slice g.z.aa g.z.p.k g.z.ac] 39 (0, 0))
theorem Pm.keep {w W W' : World} {b : Nat} {g : Cg} (h : Pm w W b g) (q : Below W.heap.size W W') : Pm w W' b g := ⟨h.bw.trans (q.mono h.bw.size), blk_below h.h2 q⟩
/-- What is known of a right command's words. -/
structure Wc (cm : Lx.Cm) (lw : List Lx.Tk) : Prop where
  all : Lx.cmE lw = (cm, -1, 0)
  hd : lw = (1, cm.word, 0) :: lw.drop 1
  one : ∀ l : List Lx.Tk, l.length < lw.length → (Lx.cmE l).2.2 = 0 → ¬ cm = (Lx.cmE l).1
  pos : 1 ≤ lw.length
  len : lw.length ≤ 79997
  tkb : Lx.TkB lw
theorem wc_of {cm : Lx.Cm} {sh : List UInt8} (h : RightC cm) (hf : ∀ y ∈ tour cm.ex 1, Fine y.1) (hs : Lx.shape cm.word = some sh) (h1 : cm.word.length ≤ maxLen) (h2 : ∀ x ∈ cm.names, x.length ≤ maxLen) (h3 : ∀ z ∈ cm.nums, -9223372036854775808 ≤ z ∧ z ≤ 9223372036854775807) (h4 : (-9223372036854775808 ≤ cm.rg.low ∧ cm.rg.low ≤ 9223372036854775807) ∧ (-9223372036854775808 ≤ cm.rg.high ∧ cm.rg.high ≤ 9223372036854775807)) : Wc cm (Lx.toldC cm sh) := by
  have hx : 101 ∈ sh → Lx.Ok 40 cm.ex ∧ Lx.cnt cm.ex ≤ 2000 := fun q => right_ok (h.ex1 (by rw [hs]; exact q)) hf
  refine ⟨cm_back h hf hs, rfl, fun l hl hz e => ?_, by unfold Lx.toldC; simp, ?_, tkb_told h1 h2 h3 h4 (fun q => tkb_words 40 cm.ex 1 (hx q).1 hf)⟩
  · obtain ⟨_, _, sh', a, b⟩ := Lx.cm_whole hz
    rw [← e] at a b
    rw [hs] at a
    cases a
    omega
  · have a := Lx.shW_len cm sh 0 0 (fun q => by have a := words_len 40 cm.ex (hx q).1; have b := (hx q).2; omega)
    have b := (Lx.shape_let (Lx.shape_in hs)).1
    unfold Lx.toldC
    rw [List.length_cons]; omega
/-- What came in. -/
structure CB (cm : Lx.Cm) : Prop where
  b1 : cm.word.length ≤ maxLen
  b2 : ∀ x ∈ cm.names, x.length ≤ maxLen
  b3 : ∀ z ∈ cm.nums, -9223372036854775808 ≤ z ∧ z ≤ 9223372036854775807
  b4 : (-9223372036854775808 ≤ cm.rg.low ∧ cm.rg.low ≤ 9223372036854775807) ∧ (-9223372036854775808 ≤ cm.rg.high ∧ cm.rg.high ≤ 9223372036854775807)
set_option maxRecDepth 20000 in
set_option maxHeartbeats 8000000 in
theorem parseCommands_walk (D : Nat) (cm : Lx.Cm) (g : Cg) (sw : ByteArray) (w : World) (hT : Tabn w) (hW : Tabw w) (hg : CG w D cm g) (hD : D ≤ 1048576) (hl : (tour cm.ex 1).length ≤ 1048576) (hb : CB cm) (hsw : sw.size ≤ maxLen) :
    Calls Tryd.prog 6 #[.agg #[.string g.wb, .slice g.an g.nl g.nc, .slice g.am g.ml g.mc, .int .i64 g.lo, .int .i64 g.hi, .bool g.hl, .bool g.hh, .int .u8 g.z.p.op, .string g.z.p.nm, .slice g.z.an g.z.nn g.z.nc, .slice g.z.aa g.z.p.k g.z.ac], .string sw] w fun e w' => e = .returned (.bool true) ∧ Below w.heap.size w w' := by
  have HAW := Lib.hid (fun W (k : Below w.heap.size w W) => awake_any W (hT.keep k) (hW.keep k))
  have HCX := Lib.hid (fun W ao n c l (k : Below w.heap.size w W) (h1 : TkAt W ao n c l) (h2 : Lx.TkB l) => cmd_cg W ao n c l h1 h2 (hT.keep k) (hW.keep k))
  have HCT := Lib.hid (fun W (k : Below w.heap.size w W) => rcount_any D (hV g.z) (tour cm.ex) W (hg.ex.keep k) hl)
  obtain ⟨r, hr⟩ : ∃ r : Bool, r = true ↔ RightC cm := by classical exact ⟨decide _, decide_eq_true_iff⟩
  have HRT : Hid (∀ W (k : Below w.heap.size w W), Calls Tryd.prog 22 #[.agg #[.string g.wb, .slice g.an g.nl g.nc, .slice g.am g.ml g.mc, .int .i64 g.lo, .int .i64 g.hi, .bool g.hl, .bool g.hh, .int .u8 g.z.p.op, .string g.z.p.nm, .slice g.z.an g.z.nn g.z.nc, .slice g.z.aa g.z.p.k g.z.ac]] W fun e w' => e = .returned (.bool r) ∧ Below W.heap.size W w') := Lib.hid (fun W k => cright_any W D cm g (hg.keep k) hD hl r hr)
  have HR := Lib.hid hr
  have HG := Lib.hid hg
  have HFI := Lib.hid (ex_fine hg.ex 1)
  have HCB := Lib.hid hb
  obtain ⟨sl, hsl⟩ : ∃ sl : List UInt8, sw = ⟨sl.toArray⟩ := ⟨sw.data.toList, by cases sw; simp⟩
  have HSE := Lib.hid hsl
  have HSW : Hid (sl.length ≤ maxLen) := Lib.hid (by rw [hsl, Lib.size_eq] at hsw; simpa using hsw)
  have HTD : Hid (∀ sh (hs : Lx.shape cm.word = some sh) (h : RightC cm) W (k : Below w.heap.size w W), Calls Tryd.prog 23 #[.agg #[.string g.wb, .slice g.an g.nl g.nc, .slice g.am g.ml g.mc, .int .i64 g.lo, .int .i64 g.hi, .bool g.hl, .bool g.hh, .int .u8 g.z.p.op, .string g.z.p.nm, .slice g.z.an g.z.nn g.z.nc, .slice g.z.aa g.z.p.k g.z.ac]] W fun e w' => ∃ ao c, e = .returned (.slice ao (Lx.toldC cm sh).length c) ∧ Hid (Below W.heap.size W w') ∧ Hid (TkAt w' ao (Lx.toldC cm sh).length c (Lx.toldC cm sh))) := Lib.hid (fun sh hs h W k => told_any W D cm g (hg.keep k) sh hs (by have := h.nn; rw [hs] at this; exact this) (by have := h.mm; rw [hs] at this; exact this) (fun q => right_ok (h.ex1 (by rw [hs]; exact q)) (ex_fine hg.ex 1)))
  obtain ⟨y, hy⟩ : ∃ y, ((tour cm.ex 1).length : Int) = y := ⟨_, rfl⟩
  rw [hy] at HCT
  unfold hV pv at HCT
  obtain ⟨b, hb'⟩ : ∃ z, w.heap.size = z := ⟨_, rfl⟩
  obtain ⟨w1, hw1⟩ : ∃ y, w.alloc (.cells #[.string g.wb, .slice g.an g.nl g.nc, .slice g.am g.ml g.mc, .int .i64 g.lo, .int .i64 g.hi, .bool g.hl, .bool g.hh, .int .u8 g.z.p.op, .string g.z.p.nm, .slice g.z.an g.z.nn g.z.nc, .slice g.z.aa g.z.p.k g.z.ac] 39) = y := ⟨_, rfl⟩
  have HP : Hid (Pm w w1 b g) := Lib.hid ⟨by rw [← hw1]; exact (Below.refl _ w).alloc (Nat.le_refl _) _, by rw [← hw1, ← hb', al_new]⟩
  clear hT hW hg hD hl hb hsw hr hy hsl
  have e0 := cell_blk HP.out.h2 0
  have e1 := cell_blk HP.out.h2 1
  have e2 := cell_blk HP.out.h2 2
  have e3 := cell_blk HP.out.h2 3
  have e4 := cell_blk HP.out.h2 4
  have e5 := cell_blk HP.out.h2 5
  have e6 := cell_blk HP.out.h2 6
  have e7 := cell_blk HP.out.h2 7
  have e8 := cell_blk HP.out.h2 8
  have e9 := cell_blk HP.out.h2 9
  have e10 := cell_blk HP.out.h2 10
  go_enter Tryd.func6, Tryd.ntmps6
  go_wp2_with fail
  (with_reducible refine (HRT.out _ HP.out.bw).mono ?_)
  rintro e w2 ⟨rfl, q⟩
  have HP := Lib.hid (HP.out.keep q)
  clear q HRT hw1 hb' e0 e1 e2 e3 e4 e5 e6 e7 e8 e9 e10
  have e0 := cell_blk HP.out.h2 0
  have e1 := cell_blk HP.out.h2 1
  have e2 := cell_blk HP.out.h2 2
  have e3 := cell_blk HP.out.h2 3
  have e4 := cell_blk HP.out.h2 4
  have e5 := cell_blk HP.out.h2 5
  have e6 := cell_blk HP.out.h2 6
  have e7 := cell_blk HP.out.h2 7
  have e8 := cell_blk HP.out.h2 8
  have e9 := cell_blk HP.out.h2 9
  have e10 := cell_blk HP.out.h2 10
  cases r
  · have HXA := Lib.hid (HAW.out _ HP.out.bw)
    go_wp2_with fail
    (with_reducible refine HXA.out.mono ?_)
    rintro e wz ⟨rfl, q⟩
    go_wp2
    go_returns
    exact ⟨rfl, (HP.out.bw).trans (q.mono (HP.out.bw).size)⟩
  · go_wp2_with fail
    (with_reducible refine (HCT.out _ HP.out.bw).mono ?_)
    rintro e w3 ⟨rfl, q⟩
    have HP := Lib.hid (HP.out.keep q)
    clear q HCT e0 e1 e2 e3 e4 e5 e6 e7 e8 e9 e10
    have e0 := cell_blk HP.out.h2 0
    have e1 := cell_blk HP.out.h2 1
    have e2 := cell_blk HP.out.h2 2
    have e3 := cell_blk HP.out.h2 3
    have e4 := cell_blk HP.out.h2 4
    have e5 := cell_blk HP.out.h2 5
    have e6 := cell_blk HP.out.h2 6
    have e7 := cell_blk HP.out.h2 7
    have e8 := cell_blk HP.out.h2 8
    have e9 := cell_blk HP.out.h2 9
    have e10 := cell_blk HP.out.h2 10
    by_cases y1 : (2000 : Int) < y
    · have HXA := Lib.hid (HAW.out _ HP.out.bw)
      go_wp2_with fail
      (with_reducible refine HXA.out.mono ?_)
      rintro e wz ⟨rfl, q⟩
      go_wp2
      go_returns
      exact ⟨rfl, (HP.out.bw).trans (q.mono (HP.out.bw).size)⟩
    · have y2 : y ≤ 2000 := by omega
      have HRC : RightC cm := by first | exact HR.out.1 rfl | exact HR.out rfl | exact HR.out | exact HR.out.1 trivial
      obtain ⟨sh, hs⟩ := Option.isSome_iff_exists.1 HRC.ok
      have HWF := Lib.hid (wc_of HRC HFI.out hs HCB.out.b1 HCB.out.b2 HCB.out.b3 HCB.out.b4)
      have HX := Lib.hid (HTD.out sh hs HRC w3 HP.out.bw)
      obtain ⟨lw, hlw⟩ : ∃ lw, Lx.toldC cm sh = lw := ⟨_, rfl⟩
      rw [hlw] at HWF HX
      obtain ⟨L, hL⟩ : ∃ L, lw.length = L := ⟨_, rfl⟩
      have HLL := Lib.hid hL
      rw [hL] at HX
      clear HRC HR HTD hs hlw hL HFI HCB y1
      go_wp2_with fail
      (with_reducible refine HX.out.mono ?_)
      rintro e w4 ⟨ao, c, rfl, q, HTK⟩
      have HP := Lib.hid (HP.out.keep q.out)
      clear q HX e0 e1 e2 e3 e4 e5 e6 e7 e8 e9 e10
      have L1 : (L : Int) ≤ 79997 := by have := HWF.out.len; have := HLL.out; omega
      have L0 : (0 : Int) < (L : Int) := by have := HWF.out.pos; have := HLL.out; omega
      have Lp : 1 ≤ L := by omega
      obtain ⟨lb, lp, rfl, _⟩ := HTK.out.here (by omega)
      have Lc : (L : Int) ≤ (c : Int) := by have := HTK.out.le; omega
      have Lc1 : (1 : Int) ≤ (c : Int) := by omega
      have Lc2 : (c : Int) ≤ 9223372036854775807 := by have := HTK.out.top; omega
      have HX := Lib.hid (HCX.out w4 (some ⟨lb, lp, none⟩) L c lw HP.out.bw HTK.out HWF.out.tkb)
      rw [HWF.out.all] at HX
      dsimp only at HX
      go_wp2_with fail
      (with_reducible refine HX.out.mono ?_)
      rintro e w5 ⟨gd, rfl, HB1, HCgd⟩
      obtain ⟨b6, hb1⟩ : ∃ z, w5.heap.size = z := ⟨_, rfl⟩
      obtain ⟨w6, hw2⟩ : ∃ y, w5.alloc (.cells #[.string gd.wb, .slice gd.an gd.nl gd.nc, .slice gd.am gd.ml gd.mc, .int .i64 gd.lo, .int .i64 gd.hi, .bool gd.hl, .bool gd.hh, .int .u8 gd.z.p.op, .string gd.z.p.nm, .slice gd.z.an gd.z.nn gd.z.nc, .slice gd.z.aa gd.z.p.k gd.z.ac] 39) = y := ⟨_, rfl⟩
      have KA : Hid (Below w4.heap.size w4 w6) := Lib.hid (HB1.out.trans (show Below w4.heap.size w5 w6 by rw [← hw2]; exact ((Below.refl _ w5).alloc (Nat.le_refl _) _).mono HB1.out.size))
      have Hgd : Hid (w6.heap[b6]? = some (.cells #[.string gd.wb, .slice gd.an gd.nl gd.nc, .slice gd.am gd.ml gd.mc, .int .i64 gd.lo, .int .i64 gd.hi, .bool gd.hl, .bool gd.hh, .int .u8 gd.z.p.op, .string gd.z.p.nm, .slice gd.z.an gd.z.nn gd.z.nc, .slice gd.z.aa gd.z.p.k gd.z.ac] 39 (0, 0))) := Lib.hid (by rw [← hw2, ← hb1, al_new])
      have HCgd := Lib.hid (HCgd.out.keep (show Below w5.heap.size w5 w6 by rw [← hw2]; exact (Below.refl _ w5).alloc (Nat.le_refl _) _))
      have HWX := Lib.hid hw2
      have HBX := Lib.hid hb1
      have HP := Lib.hid (HP.out.keep KA.out)
      clear HX HB1 hb1 hw2
      go_upto_region 5 with fail
      rw [HWX.out, HBX.out]
      clear HWX HBX
      have HTK := Lib.hid (HTK.out.keep KA.out)
      clear KA
      have e0 := cell_blk HP.out.h2 0
      have e1 := cell_blk HP.out.h2 1
      have e2 := cell_blk HP.out.h2 2
      have e3 := cell_blk HP.out.h2 3
      have e4 := cell_blk HP.out.h2 4
      have e5 := cell_blk HP.out.h2 5
      have e6 := cell_blk HP.out.h2 6
      have e7 := cell_blk HP.out.h2 7
      have e8 := cell_blk HP.out.h2 8
      have e9 := cell_blk HP.out.h2 9
      have e10 := cell_blk HP.out.h2 10
      have f0 := cell_blk Hgd.out 0
      have f1 := cell_blk Hgd.out 1
      have f2 := cell_blk Hgd.out 2
      have f3 := cell_blk Hgd.out 3
      have f4 := cell_blk Hgd.out 4
      have f5 := cell_blk Hgd.out 5
      have f6 := cell_blk Hgd.out 6
      have f7 := cell_blk Hgd.out 7
      have f8 := cell_blk Hgd.out 8
      have f9 := cell_blk Hgd.out 9
      have f10 := cell_blk Hgd.out 10
      have HSM := Lib.hid (csame_flat w6 D 41 cm cm g gd (HG.out.keep HP.out.bw) HCgd.out true ⟨fun _ => rfl, fun _ => rfl⟩)
      go_wp2_with fail
      (with_reducible refine HSM.out.mono ?_)
      rintro e w7 ⟨rfl, q⟩
      have HTK := Lib.hid (HTK.out.keep q)
      have HP := Lib.hid (HP.out.keep q)
      clear q HSM HCgd Hgd e0 e1 e2 e3 e4 e5 e6 e7 e8 e9 e10 f0 f1 f2 f3 f4 f5 f6 f7 f8 f9 f10
      by_cases hc : c = 1
      · subst hc
        obtain rfl : L = 1 := by omega
        have HT1 := Lib.hid (HTK.out.drop0)
        have HX := Lib.hid (HCX.out w7 _ _ _ _ HP.out.bw HT1.out (tkb_drop HWF.out.tkb 1))
        have HN1 := Lib.hid (HWF.out.one (lw.drop 1) (by rw [List.length_drop, HLL.out]; omega))
        have HN2 := Lib.hid (HWF.out.one (lw.take 0) (by rw [List.length_take, HLL.out]; omega))
        obtain ⟨x1, hx1⟩ : ∃ x, (Lx.cmE (lw.drop 1)).2.1 = x := ⟨_, rfl⟩
        obtain ⟨x2, hx2⟩ : ∃ x, (Lx.cmE (lw.drop 1)).2.2 = x := ⟨_, rfl⟩
        obtain ⟨F1, hf1⟩ : ∃ x, (Lx.cmE (lw.drop 1)).1 = x := ⟨_, rfl⟩
        rw [hx1, hx2, hf1] at HX
        rw [hx2, hf1] at HN1
        clear hx1 hx2 hf1
        go_wp2_with fail
        (with_reducible refine HX.out.mono ?_)
        rintro e w8 ⟨gf, rfl, HB1, HCgf⟩
        obtain ⟨b9, hb1⟩ : ∃ z, w8.heap.size = z := ⟨_, rfl⟩
        obtain ⟨w9, hw2⟩ : ∃ y, w8.alloc (.cells #[.string gf.wb, .slice gf.an gf.nl gf.nc, .slice gf.am gf.ml gf.mc, .int .i64 gf.lo, .int .i64 gf.hi, .bool gf.hl, .bool gf.hh, .int .u8 gf.z.p.op, .string gf.z.p.nm, .slice gf.z.an gf.z.nn gf.z.nc, .slice gf.z.aa gf.z.p.k gf.z.ac] 39) = y := ⟨_, rfl⟩
        have KA : Hid (Below w7.heap.size w7 w9) := Lib.hid (HB1.out.trans (show Below w7.heap.size w8 w9 by rw [← hw2]; exact ((Below.refl _ w8).alloc (Nat.le_refl _) _).mono HB1.out.size))
        have Hgf : Hid (w9.heap[b9]? = some (.cells #[.string gf.wb, .slice gf.an gf.nl gf.nc, .slice gf.am gf.ml gf.mc, .int .i64 gf.lo, .int .i64 gf.hi, .bool gf.hl, .bool gf.hh, .int .u8 gf.z.p.op, .string gf.z.p.nm, .slice gf.z.an gf.z.nn gf.z.nc, .slice gf.z.aa gf.z.p.k gf.z.ac] 39 (0, 0))) := Lib.hid (by rw [← hw2, ← hb1, al_new])
        have HCgf := Lib.hid (HCgf.out.keep (show Below w8.heap.size w8 w9 by rw [← hw2]; exact (Below.refl _ w8).alloc (Nat.le_refl _) _))
        have HWX := Lib.hid hw2
        have HBX := Lib.hid hb1
        have HP := Lib.hid (HP.out.keep KA.out)
        clear HX HB1 hb1 hw2
        go_upto_region 8 with fail
        rw [HWX.out, HBX.out]
        clear HWX HBX
        have HTK := Lib.hid (HTK.out.keep KA.out)
        clear KA HT1
        have HX := Lib.hid (HCX.out w9 _ 0 1 _ HP.out.bw (HTK.out.take (Nat.zero_le 1)) (tkb_take HWF.out.tkb 0))
        obtain ⟨y1, hy1⟩ : ∃ x, (Lx.cmE (lw.take 0)).2.1 = x := ⟨_, rfl⟩
        obtain ⟨y2', hy2⟩ : ∃ x, (Lx.cmE (lw.take 0)).2.2 = x := ⟨_, rfl⟩
        obtain ⟨F2, hf2⟩ : ∃ x, (Lx.cmE (lw.take 0)).1 = x := ⟨_, rfl⟩
        rw [hy1, hy2, hf2] at HX
        rw [hy2, hf2] at HN2
        clear hy1 hy2 hf2
        go_wp2_with fail
        (with_reducible refine HX.out.mono ?_)
        rintro e w10 ⟨gh, rfl, HB1, HCgh⟩
        obtain ⟨b12, hb1⟩ : ∃ z, w10.heap.size = z := ⟨_, rfl⟩
        obtain ⟨w11, hw2⟩ : ∃ y, w10.alloc (.cells #[.string gh.wb, .slice gh.an gh.nl gh.nc, .slice gh.am gh.ml gh.mc, .int .i64 gh.lo, .int .i64 gh.hi, .bool gh.hl, .bool gh.hh, .int .u8 gh.z.p.op, .string gh.z.p.nm, .slice gh.z.an gh.z.nn gh.z.nc, .slice gh.z.aa gh.z.p.k gh.z.ac] 39) = y := ⟨_, rfl⟩
        have KA : Hid (Below w9.heap.size w9 w11) := Lib.hid (HB1.out.trans (show Below w9.heap.size w10 w11 by rw [← hw2]; exact ((Below.refl _ w10).alloc (Nat.le_refl _) _).mono HB1.out.size))
        have Hgh : Hid (w11.heap[b12]? = some (.cells #[.string gh.wb, .slice gh.an gh.nl gh.nc, .slice gh.am gh.ml gh.mc, .int .i64 gh.lo, .int .i64 gh.hi, .bool gh.hl, .bool gh.hh, .int .u8 gh.z.p.op, .string gh.z.p.nm, .slice gh.z.an gh.z.nn gh.z.nc, .slice gh.z.aa gh.z.p.k gh.z.ac] 39 (0, 0))) := Lib.hid (by rw [← hw2, ← hb1, al_new])
        have HCgh := Lib.hid (HCgh.out.keep (show Below w10.heap.size w10 w11 by rw [← hw2]; exact (Below.refl _ w10).alloc (Nat.le_refl _) _))
        have HWX := Lib.hid hw2
        have HBX := Lib.hid hb1
        have HP := Lib.hid (HP.out.keep KA.out)
        clear HX HB1 hb1 hw2
        go_upto_region 9 with fail
        rw [HWX.out, HBX.out]
        clear HWX HBX
        have HTK := Lib.hid (HTK.out.keep KA.out)
        have Hgf := Lib.hid (blk_below Hgf.out KA.out)
        have HCgf := Lib.hid (HCgf.out.keep KA.out)
        clear KA
        have e0 := cell_blk HP.out.h2 0
        have e1 := cell_blk HP.out.h2 1
        have e2 := cell_blk HP.out.h2 2
        have e3 := cell_blk HP.out.h2 3
        have e4 := cell_blk HP.out.h2 4
        have e5 := cell_blk HP.out.h2 5
        have e6 := cell_blk HP.out.h2 6
        have e7 := cell_blk HP.out.h2 7
        have e8 := cell_blk HP.out.h2 8
        have e9 := cell_blk HP.out.h2 9
        have e10 := cell_blk HP.out.h2 10
        have f0 := cell_blk Hgf.out 0
        have f1 := cell_blk Hgf.out 1
        have f2 := cell_blk Hgf.out 2
        have f3 := cell_blk Hgf.out 3
        have f4 := cell_blk Hgf.out 4
        have f5 := cell_blk Hgf.out 5
        have f6 := cell_blk Hgf.out 6
        have f7 := cell_blk Hgf.out 7
        have f8 := cell_blk Hgf.out 8
        have f9 := cell_blk Hgf.out 9
        have f10 := cell_blk Hgf.out 10
        have k0 := cell_blk Hgh.out 0
        have k1 := cell_blk Hgh.out 1
        have k2 := cell_blk Hgh.out 2
        have k3 := cell_blk Hgh.out 3
        have k4 := cell_blk Hgh.out 4
        have k5 := cell_blk Hgh.out 5
        have k6 := cell_blk Hgh.out 6
        have k7 := cell_blk Hgh.out 7
        have k8 := cell_blk Hgh.out 8
        have k9 := cell_blk Hgh.out 9
        have k10 := cell_blk Hgh.out 10
        go_cut [81] from 66 to 81 (fun s81 wx => s81 = .bool false ∧ Hid (Pm w wx b g) ∧ Hid (TkAt wx (some ⟨lb, lp, none⟩) 1 1 lw))
        case first =>
          by_cases q1 : x2 = 0
          · have HSM := Lib.hid (csame_flat w11 D 41 cm F1 g gf (HG.out.keep HP.out.bw) HCgf.out false ⟨fun e => (by cases e), fun e => absurd e (HN1.out q1)⟩)
            subst q1
            clear HN1
            go_wp2_with fail
            (with_reducible refine HSM.out.mono ?_)
            rintro e w12 ⟨rfl, q⟩
            have HTK := Lib.hid (HTK.out.keep q)
            have HP := Lib.hid (HP.out.keep q)
            have Hgh := Lib.hid (blk_below Hgh.out q)
            have HCgh := Lib.hid (HCgh.out.keep q)
            clear q HSM HCgf Hgf e0 e1 e2 e3 e4 e5 e6 e7 e8 e9 e10 f0 f1 f2 f3 f4 f5 f6 f7 f8 f9 f10 k0 k1 k2 k3 k4 k5 k6 k7 k8 k9 k10
            have e0 := cell_blk HP.out.h2 0
            have e1 := cell_blk HP.out.h2 1
            have e2 := cell_blk HP.out.h2 2
            have e3 := cell_blk HP.out.h2 3
            have e4 := cell_blk HP.out.h2 4
            have e5 := cell_blk HP.out.h2 5
            have e6 := cell_blk HP.out.h2 6
            have e7 := cell_blk HP.out.h2 7
            have e8 := cell_blk HP.out.h2 8
            have e9 := cell_blk HP.out.h2 9
            have e10 := cell_blk HP.out.h2 10
            have k0 := cell_blk Hgh.out 0
            have k1 := cell_blk Hgh.out 1
            have k2 := cell_blk Hgh.out 2
            have k3 := cell_blk Hgh.out 3
            have k4 := cell_blk Hgh.out 4
            have k5 := cell_blk Hgh.out 5
            have k6 := cell_blk Hgh.out 6
            have k7 := cell_blk Hgh.out 7
            have k8 := cell_blk Hgh.out 8
            have k9 := cell_blk Hgh.out 9
            have k10 := cell_blk Hgh.out 10
            by_cases q2 : y2' = 0
            · have HSM := Lib.hid (csame_flat w12 D 41 cm F2 g gh (HG.out.keep HP.out.bw) HCgh.out false ⟨fun e => (by cases e), fun e => absurd e (HN2.out q2)⟩)
              subst q2
              clear HN2
              go_wp2_with fail
              (with_reducible refine HSM.out.mono ?_)
              rintro e wx ⟨rfl, q⟩
              have HTK := Lib.hid (HTK.out.keep q)
              have HP := Lib.hid (HP.out.keep q)
              go_wp2_with fail
              go_meet
              case rel => exact ⟨rfl, HP, HTK⟩
            · have q2' : (y2' == 0) = false := by rw [beq_eq_false_iff_ne]; exact q2
              clear q2 HN2
              go_wp2_with fail
              go_meet
              case rel => exact ⟨rfl, HP, HTK⟩
          · have q1' : (x2 == 0) = false := by rw [beq_eq_false_iff_ne]; exact q1
            clear q1 HN1
            by_cases q2 : y2' = 0
            · have HSM := Lib.hid (csame_flat w11 D 41 cm F2 g gh (HG.out.keep HP.out.bw) HCgh.out false ⟨fun e => (by cases e), fun e => absurd e (HN2.out q2)⟩)
              subst q2
              clear HN2
              go_wp2_with fail
              (with_reducible refine HSM.out.mono ?_)
              rintro e wx ⟨rfl, q⟩
              have HTK := Lib.hid (HTK.out.keep q)
              have HP := Lib.hid (HP.out.keep q)
              go_wp2_with fail
              go_meet
              case rel => exact ⟨rfl, HP, HTK⟩
            · have q2' : (y2' == 0) = false := by rw [beq_eq_false_iff_ne]; exact q2
              clear q2 HN2
              go_wp2_with fail
              go_meet
              case rel => exact ⟨rfl, HP, HTK⟩
        case rest =>
          obtain ⟨rfl, HPx, HTKx⟩ := hcut
          have HP := HPx
          have HTK := HTKx
          clear HPx HTKx HN1 HN2 HCgf Hgf HCgh Hgh e0 e1 e2 e3 e4 e5 e6 e7 e8 e9 e10 f0 f1 f2 f3 f4 f5 f6 f7 f8 f9 f10 k0 k1 k2 k3 k4 k5 k6 k7 k8 k9 k10
          obtain ⟨wo, rfl⟩ : ∃ wo : World, wo = wc := ⟨_, rfl⟩
          go_upto_region 11 with fail
          have HT1 := Lib.hid (HTK.out.drop0)
          have HOW : Hid ((wo.alloc (.cells #[.int .u8 1, .string sw, .int .i64 0] 47)).ownsRow wo.heap.size 47 3 (.slice (some ⟨wo.heap.size, 0, none⟩) 1 1) 1 (tkCells [(1, sl, 0)])) := Lib.hid (by
            have := World.ownsRow_lit (base := wo.heap.size) (e := 47) (size := 3) wo #[.int .u8 1, .string sw, .int .i64 0] 1 (Nat.le_refl _) (by decide) rfl
            rw [HSE.out] at this ⊢; exact this)
          have HPA := Lib.hid ((Below.refl wo.heap.size wo).alloc (Nat.le_refl _) (.cells #[.int .u8 1, .string sw, .int .i64 0] 47))
          go_upto_region 12 with (at_builtin; refine appQ rfl (.tmp 84) (.tmp 86) rfl wo.heap.size _ _ 1 [(1, sl, 0)] rfl HOW.out (some ⟨lb, lp, none⟩) 0 0 (lw.drop 1) rfl (HT1.out.keep HPA.out) (by omega) (by simp) ?_; intro v5 w13 own gr; have HBo := Lib.hid (below_grown HPA.out gr (fun q e => (HOW.out.lt q e).1) (by simp)); have HOO := Lib.hid own; clear own gr)
          have HP := Lib.hid (HP.out.keep HBo.out)
          have hlen : ([(1, sl, 0)] ++ lw.drop 1 : List Lx.Tk).length = 1 + 0 := by rw [List.length_append, List.length_drop, HLL.out]; rfl
          obtain ⟨o3, c3, rfl, ht⟩ := own_tk2 HOO.out hlen
          have htb : Lx.TkB ([(1, sl, 0)] ++ lw.drop 1) := tkb_one (by decide) HSW.out (by decide) (tkb_drop HWF.out.tkb 1)
          have HX := Lib.hid (HCX.out w13 _ _ _ _ HP.out.bw ht htb)
          clear ht htb HOW HPA HBo HOO HT1
          by_cases sq : sl = cm.word
          · have hll : ([(1, sl, 0)] ++ lw.drop 1 : List Lx.Tk) = lw := by rw [sq]; exact HWF.out.hd.symm
            rw [hll, HWF.out.all] at HX
            dsimp only at HX
            have hwq : sw = g.wb := by rw [HSE.out, sq]; exact HG.out.wd.symm
            clear hll hlen sq HSE
            obtain rfl := hwq
            go_wp2_with fail
            (with_reducible refine HX.out.mono ?_)
            rintro e w14 ⟨gk, rfl, HB1, HCgk⟩
            obtain ⟨b16, hb1⟩ : ∃ z, w14.heap.size = z := ⟨_, rfl⟩
            obtain ⟨w15, hw2⟩ : ∃ y, w14.alloc (.cells #[.string gk.wb, .slice gk.an gk.nl gk.nc, .slice gk.am gk.ml gk.mc, .int .i64 gk.lo, .int .i64 gk.hi, .bool gk.hl, .bool gk.hh, .int .u8 gk.z.p.op, .string gk.z.p.nm, .slice gk.z.an gk.z.nn gk.z.nc, .slice gk.z.aa gk.z.p.k gk.z.ac] 39) = y := ⟨_, rfl⟩
            have KA : Hid (Below w13.heap.size w13 w15) := Lib.hid (HB1.out.trans (show Below w13.heap.size w14 w15 by rw [← hw2]; exact ((Below.refl _ w14).alloc (Nat.le_refl _) _).mono HB1.out.size))
            have Hgk : Hid (w15.heap[b16]? = some (.cells #[.string gk.wb, .slice gk.an gk.nl gk.nc, .slice gk.am gk.ml gk.mc, .int .i64 gk.lo, .int .i64 gk.hi, .bool gk.hl, .bool gk.hh, .int .u8 gk.z.p.op, .string gk.z.p.nm, .slice gk.z.an gk.z.nn gk.z.nc, .slice gk.z.aa gk.z.p.k gk.z.ac] 39 (0, 0))) := Lib.hid (by rw [← hw2, ← hb1, al_new])
            have HCgk := Lib.hid (HCgk.out.keep (show Below w14.heap.size w14 w15 by rw [← hw2]; exact (Below.refl _ w14).alloc (Nat.le_refl _) _))
            have HWX := Lib.hid hw2
            have HBX := Lib.hid hb1
            have HP := Lib.hid (HP.out.keep KA.out)
            clear HX HB1 hb1 hw2
            go_upto_region 13 with fail
            rw [HWX.out, HBX.out]
            clear HWX HBX
            clear KA
            have e0 := cell_blk HP.out.h2 0
            have e1 := cell_blk HP.out.h2 1
            have e2 := cell_blk HP.out.h2 2
            have e3 := cell_blk HP.out.h2 3
            have e4 := cell_blk HP.out.h2 4
            have e5 := cell_blk HP.out.h2 5
            have e6 := cell_blk HP.out.h2 6
            have e7 := cell_blk HP.out.h2 7
            have e8 := cell_blk HP.out.h2 8
            have e9 := cell_blk HP.out.h2 9
            have e10 := cell_blk HP.out.h2 10
            have m0 := cell_blk Hgk.out 0
            have m1 := cell_blk Hgk.out 1
            have m2 := cell_blk Hgk.out 2
            have m3 := cell_blk Hgk.out 3
            have m4 := cell_blk Hgk.out 4
            have m5 := cell_blk Hgk.out 5
            have m6 := cell_blk Hgk.out 6
            have m7 := cell_blk Hgk.out 7
            have m8 := cell_blk Hgk.out 8
            have m9 := cell_blk Hgk.out 9
            have m10 := cell_blk Hgk.out 10
            have HSM := Lib.hid (csame_flat w15 D 41 cm cm g gk (HG.out.keep HP.out.bw) HCgk.out true ⟨fun _ => rfl, fun _ => rfl⟩)
            go_wp2_with fail
            (with_reducible refine HSM.out.mono ?_)
            rintro e w16 ⟨rfl, q⟩
            have HP := Lib.hid (HP.out.keep q)
            clear q HSM HCgk Hgk
            have HXA := Lib.hid (HAW.out _ HP.out.bw)
            go_wp2_with fail
            (with_reducible refine HXA.out.mono ?_)
            rintro e wz ⟨rfl, q⟩
            go_wp2
            go_returns
            exact ⟨rfl, (HP.out.bw).trans (q.mono (HP.out.bw).size)⟩
          · have hwq : (sw.toList == g.wb.toList) = false := by
              rw [beq_eq_false_iff_ne]
              intro e
              have := (nm_inj _ _).1 e
              have a : g.wb = _ := HG.out.wd
              rw [HSE.out, a, ← nm_inj, word_eq] at this
              exact sq this
            have HZ := Lib.hid (fun q => Lx.cm_whole (l := [(1, sl, 0)] ++ lw.drop 1) q)
            obtain ⟨z1, hz1⟩ : ∃ x, (Lx.cmE ([(1, sl, 0)] ++ lw.drop 1)).2.1 = x := ⟨_, rfl⟩
            obtain ⟨z2, hz2⟩ : ∃ x, (Lx.cmE ([(1, sl, 0)] ++ lw.drop 1)).2.2 = x := ⟨_, rfl⟩
            obtain ⟨F3, hf3⟩ : ∃ x, (Lx.cmE ([(1, sl, 0)] ++ lw.drop 1)).1 = x := ⟨_, rfl⟩
            rw [hz1, hz2, hf3] at HX
            rw [hz2, hf3] at HZ
            clear hz1 hz2 hf3 sq hlen
            go_wp2_with fail
            (with_reducible refine HX.out.mono ?_)
            rintro e w14 ⟨gk, rfl, HB1, HCgk⟩
            obtain ⟨b16, hb1⟩ : ∃ z, w14.heap.size = z := ⟨_, rfl⟩
            obtain ⟨w15, hw2⟩ : ∃ y, w14.alloc (.cells #[.string gk.wb, .slice gk.an gk.nl gk.nc, .slice gk.am gk.ml gk.mc, .int .i64 gk.lo, .int .i64 gk.hi, .bool gk.hl, .bool gk.hh, .int .u8 gk.z.p.op, .string gk.z.p.nm, .slice gk.z.an gk.z.nn gk.z.nc, .slice gk.z.aa gk.z.p.k gk.z.ac] 39) = y := ⟨_, rfl⟩
            have KA : Hid (Below w13.heap.size w13 w15) := Lib.hid (HB1.out.trans (show Below w13.heap.size w14 w15 by rw [← hw2]; exact ((Below.refl _ w14).alloc (Nat.le_refl _) _).mono HB1.out.size))
            have Hgk : Hid (w15.heap[b16]? = some (.cells #[.string gk.wb, .slice gk.an gk.nl gk.nc, .slice gk.am gk.ml gk.mc, .int .i64 gk.lo, .int .i64 gk.hi, .bool gk.hl, .bool gk.hh, .int .u8 gk.z.p.op, .string gk.z.p.nm, .slice gk.z.an gk.z.nn gk.z.nc, .slice gk.z.aa gk.z.p.k gk.z.ac] 39 (0, 0))) := Lib.hid (by rw [← hw2, ← hb1, al_new])
            have HCgk := Lib.hid (HCgk.out.keep (show Below w14.heap.size w14 w15 by rw [← hw2]; exact (Below.refl _ w14).alloc (Nat.le_refl _) _))
            have HWX := Lib.hid hw2
            have HBX := Lib.hid hb1
            have HP := Lib.hid (HP.out.keep KA.out)
            clear HX HB1 hb1 hw2
            go_upto_region 13 with fail
            rw [HWX.out, HBX.out]
            clear HWX HBX
            clear KA
            have e0 := cell_blk HP.out.h2 0
            have e1 := cell_blk HP.out.h2 1
            have e2 := cell_blk HP.out.h2 2
            have e3 := cell_blk HP.out.h2 3
            have e4 := cell_blk HP.out.h2 4
            have e5 := cell_blk HP.out.h2 5
            have e6 := cell_blk HP.out.h2 6
            have e7 := cell_blk HP.out.h2 7
            have e8 := cell_blk HP.out.h2 8
            have e9 := cell_blk HP.out.h2 9
            have e10 := cell_blk HP.out.h2 10
            have m0 := cell_blk Hgk.out 0
            have m1 := cell_blk Hgk.out 1
            have m2 := cell_blk Hgk.out 2
            have m3 := cell_blk Hgk.out 3
            have m4 := cell_blk Hgk.out 4
            have m5 := cell_blk Hgk.out 5
            have m6 := cell_blk Hgk.out 6
            have m7 := cell_blk Hgk.out 7
            have m8 := cell_blk Hgk.out 8
            have m9 := cell_blk Hgk.out 9
            have m10 := cell_blk Hgk.out 10
            by_cases q3 : z2 = 0
            · have hkw : sw = gk.wb := by
                have a := (HZ.out q3).2.1
                have b : gk.wb = _ := HCgk.out.wd
                rw [b, a, HSE.out]; rfl
              subst q3
              clear HZ
              obtain ⟨kw, hkw2⟩ : ∃ kw, gk.wb = kw := ⟨_, rfl⟩
              have HKW := Lib.hid (hkw.trans hkw2)
              have hk2 : (gk.wb.toList == sw.toList) = true := by rw [hkw]; exact beq_self_eq_true _
              clear hkw hkw2
              have HXA := Lib.hid (HAW.out _ HP.out.bw)
              go_wp2_with fail
              (with_reducible refine HXA.out.mono ?_)
              rintro e wz ⟨rfl, q⟩
              go_wp2
              go_returns
              exact ⟨rfl, (HP.out.bw).trans (q.mono (HP.out.bw).size)⟩
            · have q3' : (z2 != 0) = true := by rw [bne_iff_ne]; exact q3
              clear q3 HZ
              have HXA := Lib.hid (HAW.out _ HP.out.bw)
              go_wp2_with fail
              (with_reducible refine HXA.out.mono ?_)
              rintro e wz ⟨rfl, q⟩
              go_wp2
              go_returns
              exact ⟨rfl, (HP.out.bw).trans (q.mono (HP.out.bw).size)⟩
      · have hc2 : ¬ c - 1 = 0 := by omega
        have hc3 : ¬ c ≤ 1 := by omega
        have hc4 : (c - 1 == 0) = false := by rw [beq_eq_false_iff_ne]; exact hc2
        clear hc
        have HT1 := Lib.hid (HTK.out.drop1 (by omega))
        have HX := Lib.hid (HCX.out w7 _ _ _ _ HP.out.bw HT1.out (tkb_drop HWF.out.tkb 1))
        have HN1 := Lib.hid (HWF.out.one (lw.drop 1) (by rw [List.length_drop, HLL.out]; omega))
        have HN2 := Lib.hid (HWF.out.one (lw.take (L - 1)) (by rw [List.length_take, HLL.out]; omega))
        obtain ⟨x1, hx1⟩ : ∃ x, (Lx.cmE (lw.drop 1)).2.1 = x := ⟨_, rfl⟩
        obtain ⟨x2, hx2⟩ : ∃ x, (Lx.cmE (lw.drop 1)).2.2 = x := ⟨_, rfl⟩
        obtain ⟨F1, hf1⟩ : ∃ x, (Lx.cmE (lw.drop 1)).1 = x := ⟨_, rfl⟩
        rw [hx1, hx2, hf1] at HX
        rw [hx2, hf1] at HN1
        clear hx1 hx2 hf1
        go_wp2_with fail
        (with_reducible refine HX.out.mono ?_)
        rintro e w8 ⟨gf, rfl, HB1, HCgf⟩
        obtain ⟨b9, hb1⟩ : ∃ z, w8.heap.size = z := ⟨_, rfl⟩
        obtain ⟨w9, hw2⟩ : ∃ y, w8.alloc (.cells #[.string gf.wb, .slice gf.an gf.nl gf.nc, .slice gf.am gf.ml gf.mc, .int .i64 gf.lo, .int .i64 gf.hi, .bool gf.hl, .bool gf.hh, .int .u8 gf.z.p.op, .string gf.z.p.nm, .slice gf.z.an gf.z.nn gf.z.nc, .slice gf.z.aa gf.z.p.k gf.z.ac] 39) = y := ⟨_, rfl⟩
        have KA : Hid (Below w7.heap.size w7 w9) := Lib.hid (HB1.out.trans (show Below w7.heap.size w8 w9 by rw [← hw2]; exact ((Below.refl _ w8).alloc (Nat.le_refl _) _).mono HB1.out.size))
        have Hgf : Hid (w9.heap[b9]? = some (.cells #[.string gf.wb, .slice gf.an gf.nl gf.nc, .slice gf.am gf.ml gf.mc, .int .i64 gf.lo, .int .i64 gf.hi, .bool gf.hl, .bool gf.hh, .int .u8 gf.z.p.op, .string gf.z.p.nm, .slice gf.z.an gf.z.nn gf.z.nc, .slice gf.z.aa gf.z.p.k gf.z.ac] 39 (0, 0))) := Lib.hid (by rw [← hw2, ← hb1, al_new])
        have HCgf := Lib.hid (HCgf.out.keep (show Below w8.heap.size w8 w9 by rw [← hw2]; exact (Below.refl _ w8).alloc (Nat.le_refl _) _))
        have HWX := Lib.hid hw2
        have HBX := Lib.hid hb1
        have HP := Lib.hid (HP.out.keep KA.out)
        clear HX HB1 hb1 hw2
        go_upto_region 8 with fail
        rw [HWX.out, HBX.out]
        clear HWX HBX
        obtain ⟨M, hM⟩ : ∃ M : Nat, L - 1 = M := ⟨_, rfl⟩
        have hLM : (L : Int) - 1 = (M : Int) := by omega
        have M0 : (0 : Int) ≤ (M : Int) := by omega
        have M1 : (M : Int) ≤ (c : Int) := by omega
        have M2 : M ≤ L := by omega
        have HTK := Lib.hid (HTK.out.keep KA.out)
        clear KA HT1
        have HX := Lib.hid (HCX.out w9 _ M c _ HP.out.bw (HTK.out.take M2) (tkb_take HWF.out.tkb M))
        rw [hM] at HN2
        obtain ⟨y1, hy1⟩ : ∃ x, (Lx.cmE (lw.take M)).2.1 = x := ⟨_, rfl⟩
        obtain ⟨y2', hy2⟩ : ∃ x, (Lx.cmE (lw.take M)).2.2 = x := ⟨_, rfl⟩
        obtain ⟨F2, hf2⟩ : ∃ x, (Lx.cmE (lw.take M)).1 = x := ⟨_, rfl⟩
        rw [hy1, hy2, hf2] at HX
        rw [hy2, hf2] at HN2
        clear hy1 hy2 hf2
        go_wp2_with fail
        (with_reducible refine HX.out.mono ?_)
        rintro e w10 ⟨gh, rfl, HB1, HCgh⟩
        obtain ⟨b12, hb1⟩ : ∃ z, w10.heap.size = z := ⟨_, rfl⟩
        obtain ⟨w11, hw2⟩ : ∃ y, w10.alloc (.cells #[.string gh.wb, .slice gh.an gh.nl gh.nc, .slice gh.am gh.ml gh.mc, .int .i64 gh.lo, .int .i64 gh.hi, .bool gh.hl, .bool gh.hh, .int .u8 gh.z.p.op, .string gh.z.p.nm, .slice gh.z.an gh.z.nn gh.z.nc, .slice gh.z.aa gh.z.p.k gh.z.ac] 39) = y := ⟨_, rfl⟩
        have KA : Hid (Below w9.heap.size w9 w11) := Lib.hid (HB1.out.trans (show Below w9.heap.size w10 w11 by rw [← hw2]; exact ((Below.refl _ w10).alloc (Nat.le_refl _) _).mono HB1.out.size))
        have Hgh : Hid (w11.heap[b12]? = some (.cells #[.string gh.wb, .slice gh.an gh.nl gh.nc, .slice gh.am gh.ml gh.mc, .int .i64 gh.lo, .int .i64 gh.hi, .bool gh.hl, .bool gh.hh, .int .u8 gh.z.p.op, .string gh.z.p.nm, .slice gh.z.an gh.z.nn gh.z.nc, .slice gh.z.aa gh.z.p.k gh.z.ac] 39 (0, 0))) := Lib.hid (by rw [← hw2, ← hb1, al_new])
        have HCgh := Lib.hid (HCgh.out.keep (show Below w10.heap.size w10 w11 by rw [← hw2]; exact (Below.refl _ w10).alloc (Nat.le_refl _) _))
        have HWX := Lib.hid hw2
        have HBX := Lib.hid hb1
        have HP := Lib.hid (HP.out.keep KA.out)
        clear HX HB1 hb1 hw2
        go_upto_region 9 with fail
        rw [HWX.out, HBX.out]
        clear HWX HBX
        have HTK := Lib.hid (HTK.out.keep KA.out)
        have Hgf := Lib.hid (blk_below Hgf.out KA.out)
        have HCgf := Lib.hid (HCgf.out.keep KA.out)
        clear KA
        have e0 := cell_blk HP.out.h2 0
        have e1 := cell_blk HP.out.h2 1
        have e2 := cell_blk HP.out.h2 2
        have e3 := cell_blk HP.out.h2 3
        have e4 := cell_blk HP.out.h2 4
        have e5 := cell_blk HP.out.h2 5
        have e6 := cell_blk HP.out.h2 6
        have e7 := cell_blk HP.out.h2 7
        have e8 := cell_blk HP.out.h2 8
        have e9 := cell_blk HP.out.h2 9
        have e10 := cell_blk HP.out.h2 10
        have f0 := cell_blk Hgf.out 0
        have f1 := cell_blk Hgf.out 1
        have f2 := cell_blk Hgf.out 2
        have f3 := cell_blk Hgf.out 3
        have f4 := cell_blk Hgf.out 4
        have f5 := cell_blk Hgf.out 5
        have f6 := cell_blk Hgf.out 6
        have f7 := cell_blk Hgf.out 7
        have f8 := cell_blk Hgf.out 8
        have f9 := cell_blk Hgf.out 9
        have f10 := cell_blk Hgf.out 10
        have k0 := cell_blk Hgh.out 0
        have k1 := cell_blk Hgh.out 1
        have k2 := cell_blk Hgh.out 2
        have k3 := cell_blk Hgh.out 3
        have k4 := cell_blk Hgh.out 4
        have k5 := cell_blk Hgh.out 5
        have k6 := cell_blk Hgh.out 6
        have k7 := cell_blk Hgh.out 7
        have k8 := cell_blk Hgh.out 8
        have k9 := cell_blk Hgh.out 9
        have k10 := cell_blk Hgh.out 10
        go_cut [81] from 66 to 81 (fun s81 wx => s81 = .bool false ∧ Hid (Pm w wx b g) ∧ Hid (TkAt wx (some ⟨lb, lp, none⟩) L c lw))
        case first =>
          by_cases q1 : x2 = 0
          · have HSM := Lib.hid (csame_flat w11 D 41 cm F1 g gf (HG.out.keep HP.out.bw) HCgf.out false ⟨fun e => (by cases e), fun e => absurd e (HN1.out q1)⟩)
            subst q1
            clear HN1
            go_wp2_with fail
            (with_reducible refine HSM.out.mono ?_)
            rintro e w12 ⟨rfl, q⟩
            have HTK := Lib.hid (HTK.out.keep q)
            have HP := Lib.hid (HP.out.keep q)
            have Hgh := Lib.hid (blk_below Hgh.out q)
            have HCgh := Lib.hid (HCgh.out.keep q)
            clear q HSM HCgf Hgf e0 e1 e2 e3 e4 e5 e6 e7 e8 e9 e10 f0 f1 f2 f3 f4 f5 f6 f7 f8 f9 f10 k0 k1 k2 k3 k4 k5 k6 k7 k8 k9 k10
            have e0 := cell_blk HP.out.h2 0
            have e1 := cell_blk HP.out.h2 1
            have e2 := cell_blk HP.out.h2 2
            have e3 := cell_blk HP.out.h2 3
            have e4 := cell_blk HP.out.h2 4
            have e5 := cell_blk HP.out.h2 5
            have e6 := cell_blk HP.out.h2 6
            have e7 := cell_blk HP.out.h2 7
            have e8 := cell_blk HP.out.h2 8
            have e9 := cell_blk HP.out.h2 9
            have e10 := cell_blk HP.out.h2 10
            have k0 := cell_blk Hgh.out 0
            have k1 := cell_blk Hgh.out 1
            have k2 := cell_blk Hgh.out 2
            have k3 := cell_blk Hgh.out 3
            have k4 := cell_blk Hgh.out 4
            have k5 := cell_blk Hgh.out 5
            have k6 := cell_blk Hgh.out 6
            have k7 := cell_blk Hgh.out 7
            have k8 := cell_blk Hgh.out 8
            have k9 := cell_blk Hgh.out 9
            have k10 := cell_blk Hgh.out 10
            by_cases q2 : y2' = 0
            · have HSM := Lib.hid (csame_flat w12 D 41 cm F2 g gh (HG.out.keep HP.out.bw) HCgh.out false ⟨fun e => (by cases e), fun e => absurd e (HN2.out q2)⟩)
              subst q2
              clear HN2
              go_wp2_with fail
              (with_reducible refine HSM.out.mono ?_)
              rintro e wx ⟨rfl, q⟩
              have HTK := Lib.hid (HTK.out.keep q)
              have HP := Lib.hid (HP.out.keep q)
              go_wp2_with fail
              go_meet
              case rel => exact ⟨rfl, HP, HTK⟩
            · have q2' : (y2' == 0) = false := by rw [beq_eq_false_iff_ne]; exact q2
              clear q2 HN2
              go_wp2_with fail
              go_meet
              case rel => exact ⟨rfl, HP, HTK⟩
          · have q1' : (x2 == 0) = false := by rw [beq_eq_false_iff_ne]; exact q1
            clear q1 HN1
            by_cases q2 : y2' = 0
            · have HSM := Lib.hid (csame_flat w11 D 41 cm F2 g gh (HG.out.keep HP.out.bw) HCgh.out false ⟨fun e => (by cases e), fun e => absurd e (HN2.out q2)⟩)
              subst q2
              clear HN2
              go_wp2_with fail
              (with_reducible refine HSM.out.mono ?_)
              rintro e wx ⟨rfl, q⟩
              have HTK := Lib.hid (HTK.out.keep q)
              have HP := Lib.hid (HP.out.keep q)
              go_wp2_with fail
              go_meet
              case rel => exact ⟨rfl, HP, HTK⟩
            · have q2' : (y2' == 0) = false := by rw [beq_eq_false_iff_ne]; exact q2
              clear q2 HN2
              go_wp2_with fail
              go_meet
              case rel => exact ⟨rfl, HP, HTK⟩
        case rest =>
          obtain ⟨rfl, HPx, HTKx⟩ := hcut
          have HP := HPx
          have HTK := HTKx
          clear HPx HTKx HN1 HN2 HCgf Hgf HCgh Hgh e0 e1 e2 e3 e4 e5 e6 e7 e8 e9 e10 f0 f1 f2 f3 f4 f5 f6 f7 f8 f9 f10 k0 k1 k2 k3 k4 k5 k6 k7 k8 k9 k10
          obtain ⟨wo, rfl⟩ : ∃ wo : World, wo = wc := ⟨_, rfl⟩
          go_upto_region 11 with fail
          have HT1 := Lib.hid (HTK.out.drop1 (by omega))
          rw [hM] at HT1
          have HOW : Hid ((wo.alloc (.cells #[.int .u8 1, .string sw, .int .i64 0] 47)).ownsRow wo.heap.size 47 3 (.slice (some ⟨wo.heap.size, 0, none⟩) 1 1) 1 (tkCells [(1, sl, 0)])) := Lib.hid (by
            have := World.ownsRow_lit (base := wo.heap.size) (e := 47) (size := 3) wo #[.int .u8 1, .string sw, .int .i64 0] 1 (Nat.le_refl _) (by decide) rfl
            rw [HSE.out] at this ⊢; exact this)
          have HPA := Lib.hid ((Below.refl wo.heap.size wo).alloc (Nat.le_refl _) (.cells #[.int .u8 1, .string sw, .int .i64 0] 47))
          go_upto_region 12 with (at_builtin; refine appQ rfl (.tmp 84) (.tmp 86) rfl wo.heap.size _ _ 1 [(1, sl, 0)] rfl HOW.out (some ⟨lb, lp + 3, none⟩) M (c - 1) (lw.drop 1) rfl (HT1.out.keep HPA.out) (by omega) (by simp) ?_; intro v5 w13 own gr; have HBo := Lib.hid (below_grown HPA.out gr (fun q e => (HOW.out.lt q e).1) (by simp)); have HOO := Lib.hid own; clear own gr)
          have HP := Lib.hid (HP.out.keep HBo.out)
          have hlen : ([(1, sl, 0)] ++ lw.drop 1 : List Lx.Tk).length = 1 + M := by rw [List.length_append, List.length_drop, HLL.out, hM]; rfl
          obtain ⟨o3, c3, rfl, ht⟩ := own_tk2 HOO.out hlen
          have htb : Lx.TkB ([(1, sl, 0)] ++ lw.drop 1) := tkb_one (by decide) HSW.out (by decide) (tkb_drop HWF.out.tkb 1)
          have HX := Lib.hid (HCX.out w13 _ _ _ _ HP.out.bw ht htb)
          clear ht htb HOW HPA HBo HOO HT1
          by_cases sq : sl = cm.word
          · have hll : ([(1, sl, 0)] ++ lw.drop 1 : List Lx.Tk) = lw := by rw [sq]; exact HWF.out.hd.symm
            rw [hll, HWF.out.all] at HX
            dsimp only at HX
            have hwq : sw = g.wb := by rw [HSE.out, sq]; exact HG.out.wd.symm
            clear hll hlen sq HSE
            obtain rfl := hwq
            go_wp2_with fail
            (with_reducible refine HX.out.mono ?_)
            rintro e w14 ⟨gk, rfl, HB1, HCgk⟩
            obtain ⟨b16, hb1⟩ : ∃ z, w14.heap.size = z := ⟨_, rfl⟩
            obtain ⟨w15, hw2⟩ : ∃ y, w14.alloc (.cells #[.string gk.wb, .slice gk.an gk.nl gk.nc, .slice gk.am gk.ml gk.mc, .int .i64 gk.lo, .int .i64 gk.hi, .bool gk.hl, .bool gk.hh, .int .u8 gk.z.p.op, .string gk.z.p.nm, .slice gk.z.an gk.z.nn gk.z.nc, .slice gk.z.aa gk.z.p.k gk.z.ac] 39) = y := ⟨_, rfl⟩
            have KA : Hid (Below w13.heap.size w13 w15) := Lib.hid (HB1.out.trans (show Below w13.heap.size w14 w15 by rw [← hw2]; exact ((Below.refl _ w14).alloc (Nat.le_refl _) _).mono HB1.out.size))
            have Hgk : Hid (w15.heap[b16]? = some (.cells #[.string gk.wb, .slice gk.an gk.nl gk.nc, .slice gk.am gk.ml gk.mc, .int .i64 gk.lo, .int .i64 gk.hi, .bool gk.hl, .bool gk.hh, .int .u8 gk.z.p.op, .string gk.z.p.nm, .slice gk.z.an gk.z.nn gk.z.nc, .slice gk.z.aa gk.z.p.k gk.z.ac] 39 (0, 0))) := Lib.hid (by rw [← hw2, ← hb1, al_new])
            have HCgk := Lib.hid (HCgk.out.keep (show Below w14.heap.size w14 w15 by rw [← hw2]; exact (Below.refl _ w14).alloc (Nat.le_refl _) _))
            have HWX := Lib.hid hw2
            have HBX := Lib.hid hb1
            have HP := Lib.hid (HP.out.keep KA.out)
            clear HX HB1 hb1 hw2
            go_upto_region 13 with fail
            rw [HWX.out, HBX.out]
            clear HWX HBX
            clear KA
            have e0 := cell_blk HP.out.h2 0
            have e1 := cell_blk HP.out.h2 1
            have e2 := cell_blk HP.out.h2 2
            have e3 := cell_blk HP.out.h2 3
            have e4 := cell_blk HP.out.h2 4
            have e5 := cell_blk HP.out.h2 5
            have e6 := cell_blk HP.out.h2 6
            have e7 := cell_blk HP.out.h2 7
            have e8 := cell_blk HP.out.h2 8
            have e9 := cell_blk HP.out.h2 9
            have e10 := cell_blk HP.out.h2 10
            have m0 := cell_blk Hgk.out 0
            have m1 := cell_blk Hgk.out 1
            have m2 := cell_blk Hgk.out 2
            have m3 := cell_blk Hgk.out 3
            have m4 := cell_blk Hgk.out 4
            have m5 := cell_blk Hgk.out 5
            have m6 := cell_blk Hgk.out 6
            have m7 := cell_blk Hgk.out 7
            have m8 := cell_blk Hgk.out 8
            have m9 := cell_blk Hgk.out 9
            have m10 := cell_blk Hgk.out 10
            have HSM := Lib.hid (csame_flat w15 D 41 cm cm g gk (HG.out.keep HP.out.bw) HCgk.out true ⟨fun _ => rfl, fun _ => rfl⟩)
            go_wp2_with fail
            (with_reducible refine HSM.out.mono ?_)
            rintro e w16 ⟨rfl, q⟩
            have HP := Lib.hid (HP.out.keep q)
            clear q HSM HCgk Hgk
            have HXA := Lib.hid (HAW.out _ HP.out.bw)
            go_wp2_with fail
            (with_reducible refine HXA.out.mono ?_)
            rintro e wz ⟨rfl, q⟩
            go_wp2
            go_returns
            exact ⟨rfl, (HP.out.bw).trans (q.mono (HP.out.bw).size)⟩
          · have hwq : (sw.toList == g.wb.toList) = false := by
              rw [beq_eq_false_iff_ne]
              intro e
              have := (nm_inj _ _).1 e
              have a : g.wb = _ := HG.out.wd
              rw [HSE.out, a, ← nm_inj, word_eq] at this
              exact sq this
            have HZ := Lib.hid (fun q => Lx.cm_whole (l := [(1, sl, 0)] ++ lw.drop 1) q)
            obtain ⟨z1, hz1⟩ : ∃ x, (Lx.cmE ([(1, sl, 0)] ++ lw.drop 1)).2.1 = x := ⟨_, rfl⟩
            obtain ⟨z2, hz2⟩ : ∃ x, (Lx.cmE ([(1, sl, 0)] ++ lw.drop 1)).2.2 = x := ⟨_, rfl⟩
            obtain ⟨F3, hf3⟩ : ∃ x, (Lx.cmE ([(1, sl, 0)] ++ lw.drop 1)).1 = x := ⟨_, rfl⟩
            rw [hz1, hz2, hf3] at HX
            rw [hz2, hf3] at HZ
            clear hz1 hz2 hf3 sq hlen
            go_wp2_with fail
            (with_reducible refine HX.out.mono ?_)
            rintro e w14 ⟨gk, rfl, HB1, HCgk⟩
            obtain ⟨b16, hb1⟩ : ∃ z, w14.heap.size = z := ⟨_, rfl⟩
            obtain ⟨w15, hw2⟩ : ∃ y, w14.alloc (.cells #[.string gk.wb, .slice gk.an gk.nl gk.nc, .slice gk.am gk.ml gk.mc, .int .i64 gk.lo, .int .i64 gk.hi, .bool gk.hl, .bool gk.hh, .int .u8 gk.z.p.op, .string gk.z.p.nm, .slice gk.z.an gk.z.nn gk.z.nc, .slice gk.z.aa gk.z.p.k gk.z.ac] 39) = y := ⟨_, rfl⟩
            have KA : Hid (Below w13.heap.size w13 w15) := Lib.hid (HB1.out.trans (show Below w13.heap.size w14 w15 by rw [← hw2]; exact ((Below.refl _ w14).alloc (Nat.le_refl _) _).mono HB1.out.size))
            have Hgk : Hid (w15.heap[b16]? = some (.cells #[.string gk.wb, .slice gk.an gk.nl gk.nc, .slice gk.am gk.ml gk.mc, .int .i64 gk.lo, .int .i64 gk.hi, .bool gk.hl, .bool gk.hh, .int .u8 gk.z.p.op, .string gk.z.p.nm, .slice gk.z.an gk.z.nn gk.z.nc, .slice gk.z.aa gk.z.p.k gk.z.ac] 39 (0, 0))) := Lib.hid (by rw [← hw2, ← hb1, al_new])
            have HCgk := Lib.hid (HCgk.out.keep (show Below w14.heap.size w14 w15 by rw [← hw2]; exact (Below.refl _ w14).alloc (Nat.le_refl _) _))
            have HWX := Lib.hid hw2
            have HBX := Lib.hid hb1
            have HP := Lib.hid (HP.out.keep KA.out)
            clear HX HB1 hb1 hw2
            go_upto_region 13 with fail
            rw [HWX.out, HBX.out]
            clear HWX HBX
            clear KA
            have e0 := cell_blk HP.out.h2 0
            have e1 := cell_blk HP.out.h2 1
            have e2 := cell_blk HP.out.h2 2
            have e3 := cell_blk HP.out.h2 3
            have e4 := cell_blk HP.out.h2 4
            have e5 := cell_blk HP.out.h2 5
            have e6 := cell_blk HP.out.h2 6
            have e7 := cell_blk HP.out.h2 7
            have e8 := cell_blk HP.out.h2 8
            have e9 := cell_blk HP.out.h2 9
            have e10 := cell_blk HP.out.h2 10
            have m0 := cell_blk Hgk.out 0
            have m1 := cell_blk Hgk.out 1
            have m2 := cell_blk Hgk.out 2
            have m3 := cell_blk Hgk.out 3
            have m4 := cell_blk Hgk.out 4
            have m5 := cell_blk Hgk.out 5
            have m6 := cell_blk Hgk.out 6
            have m7 := cell_blk Hgk.out 7
            have m8 := cell_blk Hgk.out 8
            have m9 := cell_blk Hgk.out 9
            have m10 := cell_blk Hgk.out 10
            by_cases q3 : z2 = 0
            · have hkw : sw = gk.wb := by
                have a := (HZ.out q3).2.1
                have b : gk.wb = _ := HCgk.out.wd
                rw [b, a, HSE.out]; rfl
              subst q3
              clear HZ
              obtain ⟨kw, hkw2⟩ : ∃ kw, gk.wb = kw := ⟨_, rfl⟩
              have HKW := Lib.hid (hkw.trans hkw2)
              have hk2 : (gk.wb.toList == sw.toList) = true := by rw [hkw]; exact beq_self_eq_true _
              clear hkw hkw2
              have HXA := Lib.hid (HAW.out _ HP.out.bw)
              go_wp2_with fail
              (with_reducible refine HXA.out.mono ?_)
              rintro e wz ⟨rfl, q⟩
              go_wp2
              go_returns
              exact ⟨rfl, (HP.out.bw).trans (q.mono (HP.out.bw).size)⟩
            · have q3' : (z2 != 0) = true := by rw [bne_iff_ne]; exact q3
              clear q3 HZ
              have HXA := Lib.hid (HAW.out _ HP.out.bw)
              go_wp2_with fail
              (with_reducible refine HXA.out.mono ?_)
              rintro e wz ⟨rfl, q⟩
              go_wp2
              go_returns
              exact ⟨rfl, (HP.out.bw).trans (q.mono (HP.out.bw).size)⟩
end Go.Proofs.YtllhcpkpbipjlaaDoor
