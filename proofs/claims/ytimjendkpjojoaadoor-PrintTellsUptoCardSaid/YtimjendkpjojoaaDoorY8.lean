/- The reference's shapes. -/
import Derived.Test.YtimjendkpjojoaaDoorY6
import Derived.Test.YtimjendkpjojoaaDoorE24
import Derived.Test.YtimjendkpjojoaaDoorE26
import Derived.Test.YtimjendkpjojoaaDoorX12
namespace Go.Proofs.YtimjendkpjojoaaDoor
set_option linter.unusedVariables false
set_option linter.unusedSimpArgs false
open Go.ChangeShapes Go.WideShapes Go.ChangeAt Go.RowKit
theorem rsh_0 (w : World) : Calls Tryd.prog 25 #[.string ⟨#[100, 101, 102, 105, 110, 101]⟩] w fun e w' => e = .returned (.tuple #[.string ⟨#[110, 61, 101]⟩, .bool true]) ∧ w = w' := by
  go_enter Tryd.func25, Tryd.ntmps25
  go_wp2
  go_returns
  exact ⟨rfl, rfl⟩
theorem rsh_1 (w : World) : Calls Tryd.prog 25 #[.string ⟨#[100, 114, 111, 112]⟩] w fun e w' => e = .returned (.tuple #[.string ⟨#[110]⟩, .bool true]) ∧ w = w' := by
  go_enter Tryd.func25, Tryd.ntmps25
  go_wp2
  go_returns
  exact ⟨rfl, rfl⟩
theorem rsh_2 (w : World) : Calls Tryd.prog 25 #[.string ⟨#[115, 104, 111, 119]⟩] w fun e w' => e = .returned (.tuple #[.string ⟨#[110]⟩, .bool true]) ∧ w = w' := by
  go_enter Tryd.func25, Tryd.ntmps25
  go_wp2
  go_returns
  exact ⟨rfl, rfl⟩
theorem rsh_3 (w : World) : Calls Tryd.prog 25 #[.string ⟨#[102, 111, 114, 109]⟩] w fun e w' => e = .returned (.tuple #[.string ⟨#[110]⟩, .bool true]) ∧ w = w' := by
  go_enter Tryd.func25, Tryd.ntmps25
  go_wp2
  go_returns
  exact ⟨rfl, rfl⟩
theorem rsh_4 (w : World) : Calls Tryd.prog 25 #[.string ⟨#[118, 97, 114]⟩] w fun e w' => e = .returned (.tuple #[.string ⟨#[110]⟩, .bool true]) ∧ w = w' := by
  go_enter Tryd.func25, Tryd.ntmps25
  go_wp2
  go_returns
  exact ⟨rfl, rfl⟩
theorem rsh_5 (w : World) : Calls Tryd.prog 25 #[.string ⟨#[101, 120, 116, 101, 110, 116]⟩] w fun e w' => e = .returned (.tuple #[.string ⟨#[110, 105]⟩, .bool true]) ∧ w = w' := by
  go_enter Tryd.func25, Tryd.ntmps25
  go_wp2
  go_returns
  exact ⟨rfl, rfl⟩
theorem rsh_6 (w : World) : Calls Tryd.prog 25 #[.string ⟨#[103, 114, 97, 110, 117, 108, 101]⟩] w fun e w' => e = .returned (.tuple #[.string ⟨#[110, 105]⟩, .bool true]) ∧ w = w' := by
  go_enter Tryd.func25, Tryd.ntmps25
  go_wp2
  go_returns
  exact ⟨rfl, rfl⟩
theorem rsh_7 (w : World) : Calls Tryd.prog 25 #[.string ⟨#[110, 101, 120, 116]⟩] w fun e w' => e = .returned (.tuple #[.string ⟨#[110, 105]⟩, .bool true]) ∧ w = w' := by
  go_enter Tryd.func25, Tryd.ntmps25
  go_wp2
  go_returns
  exact ⟨rfl, rfl⟩
theorem rsh_8 (w : World) : Calls Tryd.prog 25 #[.string ⟨#[112, 114, 101, 118]⟩] w fun e w' => e = .returned (.tuple #[.string ⟨#[110, 105]⟩, .bool true]) ∧ w = w' := by
  go_enter Tryd.func25, Tryd.ntmps25
  go_wp2
  go_returns
  exact ⟨rfl, rfl⟩
theorem rsh_9 (w : World) : Calls Tryd.prog 25 #[.string ⟨#[115, 112, 97, 110]⟩] w fun e w' => e = .returned (.tuple #[.string ⟨#[110, 105]⟩, .bool true]) ∧ w = w' := by
  go_enter Tryd.func25, Tryd.ntmps25
  go_wp2
  go_returns
  exact ⟨rfl, rfl⟩
theorem rsh_10 (w : World) : Calls Tryd.prog 25 #[.string ⟨#[114, 101, 108]⟩] w fun e w' => e = .returned (.tuple #[.string ⟨#[110, 110]⟩, .bool true]) ∧ w = w' := by
  go_enter Tryd.func25, Tryd.ntmps25
  go_wp2
  go_returns
  exact ⟨rfl, rfl⟩
theorem rsh_11 (w : World) : Calls Tryd.prog 25 #[.string ⟨#[99, 111, 118, 101, 114]⟩] w fun e w' => e = .returned (.tuple #[.string ⟨#[110, 110, 105]⟩, .bool true]) ∧ w = w' := by
  go_enter Tryd.func25, Tryd.ntmps25
  go_wp2
  go_returns
  exact ⟨rfl, rfl⟩
theorem rsh_12 (w : World) : Calls Tryd.prog 25 #[.string ⟨#[98, 111, 117, 110, 100]⟩] w fun e w' => e = .returned (.tuple #[.string ⟨#[110, 110, 110, 114]⟩, .bool true]) ∧ w = w' := by
  go_enter Tryd.func25, Tryd.ntmps25
  go_wp2
  go_returns
  exact ⟨rfl, rfl⟩
theorem rsh_13 (w : World) : Calls Tryd.prog 25 #[.string ⟨#[100, 97, 116, 101]⟩] w fun e w' => e = .returned (.tuple #[.string ⟨#[105]⟩, .bool true]) ∧ w = w' := by
  go_enter Tryd.func25, Tryd.ntmps25
  go_wp2
  go_returns
  exact ⟨rfl, rfl⟩
theorem rsh_14 (w : World) : Calls Tryd.prog 25 #[.string ⟨#[115, 111, 108, 118, 101]⟩] w fun e w' => e = .returned (.tuple #[.string ⟨#[105, 105, 105]⟩, .bool true]) ∧ w = w' := by
  go_enter Tryd.func25, Tryd.ntmps25
  go_wp2
  go_returns
  exact ⟨rfl, rfl⟩
theorem rsh_15 (w : World) : Calls Tryd.prog 25 #[.string ⟨#[110, 101, 116]⟩] w fun e w' => e = .returned (.tuple #[.string ⟨#[]⟩, .bool true]) ∧ w = w' := by
  go_enter Tryd.func25, Tryd.ntmps25
  go_wp2
  go_returns
  exact ⟨rfl, rfl⟩
theorem rsh_16 (w : World) : Calls Tryd.prog 25 #[.string ⟨#[105, 110, 102, 101, 114]⟩] w fun e w' => e = .returned (.tuple #[.string ⟨#[]⟩, .bool true]) ∧ w = w' := by
  go_enter Tryd.func25, Tryd.ntmps25
  go_wp2
  go_returns
  exact ⟨rfl, rfl⟩
theorem rsh_17 (w : World) : Calls Tryd.prog 25 #[.string ⟨#[114, 101, 115, 101, 116]⟩] w fun e w' => e = .returned (.tuple #[.string ⟨#[]⟩, .bool true]) ∧ w = w' := by
  go_enter Tryd.func25, Tryd.ntmps25
  go_wp2
  go_returns
  exact ⟨rfl, rfl⟩
set_option maxHeartbeats 1000000 in
theorem rsh_none (s : ByteArray) (w : World) (h0 : (s.toList == [100, 101, 102, 105, 110, 101]) = false) (h1 : (s.toList == [100, 114, 111, 112]) = false) (h2 : (s.toList == [115, 104, 111, 119]) = false) (h3 : (s.toList == [102, 111, 114, 109]) = false) (h4 : (s.toList == [118, 97, 114]) = false) (h5 : (s.toList == [101, 120, 116, 101, 110, 116]) = false) (h6 : (s.toList == [103, 114, 97, 110, 117, 108, 101]) = false) (h7 : (s.toList == [110, 101, 120, 116]) = false) (h8 : (s.toList == [112, 114, 101, 118]) = false) (h9 : (s.toList == [115, 112, 97, 110]) = false) (h10 : (s.toList == [114, 101, 108]) = false) (h11 : (s.toList == [99, 111, 118, 101, 114]) = false) (h12 : (s.toList == [98, 111, 117, 110, 100]) = false) (h13 : (s.toList == [100, 97, 116, 101]) = false) (h14 : (s.toList == [115, 111, 108, 118, 101]) = false) (h15 : (s.toList == [110, 101, 116]) = false) (h16 : (s.toList == [105, 110, 102, 101, 114]) = false) (h17 : (s.toList == [114, 101, 115, 101, 116]) = false) : Calls Tryd.prog 25 #[.string s] w fun e w' => e = .returned (.tuple #[.string ⟨#[]⟩, .bool false]) ∧ w = w' := by
  go_enter Tryd.func25, Tryd.ntmps25
  go_wp2
  go_returns
  exact ⟨rfl, rfl⟩
theorem rshape_any (s : ByteArray) (w : World) : Calls Tryd.prog 25 #[.string s] w fun e w' => e = .returned (shV (Lx.shape s.data.toList)) ∧ w = w' := by
  obtain ⟨l, hl⟩ : ∃ l, s.data.toList = l := ⟨_, rfl⟩
  by_cases h0 : l = [100, 101, 102, 105, 110, 101]
  · subst h0
    rw [hl, str_of s _ hl]; exact rsh_0 w
  · by_cases h1 : l = [100, 114, 111, 112]
    · subst h1
      rw [hl, str_of s _ hl]; exact rsh_1 w
    · by_cases h2 : l = [115, 104, 111, 119]
      · subst h2
        rw [hl, str_of s _ hl]; exact rsh_2 w
      · by_cases h3 : l = [102, 111, 114, 109]
        · subst h3
          rw [hl, str_of s _ hl]; exact rsh_3 w
        · by_cases h4 : l = [118, 97, 114]
          · subst h4
            rw [hl, str_of s _ hl]; exact rsh_4 w
          · by_cases h5 : l = [101, 120, 116, 101, 110, 116]
            · subst h5
              rw [hl, str_of s _ hl]; exact rsh_5 w
            · by_cases h6 : l = [103, 114, 97, 110, 117, 108, 101]
              · subst h6
                rw [hl, str_of s _ hl]; exact rsh_6 w
              · by_cases h7 : l = [110, 101, 120, 116]
                · subst h7
                  rw [hl, str_of s _ hl]; exact rsh_7 w
                · by_cases h8 : l = [112, 114, 101, 118]
                  · subst h8
                    rw [hl, str_of s _ hl]; exact rsh_8 w
                  · by_cases h9 : l = [115, 112, 97, 110]
                    · subst h9
                      rw [hl, str_of s _ hl]; exact rsh_9 w
                    · by_cases h10 : l = [114, 101, 108]
                      · subst h10
                        rw [hl, str_of s _ hl]; exact rsh_10 w
                      · by_cases h11 : l = [99, 111, 118, 101, 114]
                        · subst h11
                          rw [hl, str_of s _ hl]; exact rsh_11 w
                        · by_cases h12 : l = [98, 111, 117, 110, 100]
                          · subst h12
                            rw [hl, str_of s _ hl]; exact rsh_12 w
                          · by_cases h13 : l = [100, 97, 116, 101]
                            · subst h13
                              rw [hl, str_of s _ hl]; exact rsh_13 w
                            · by_cases h14 : l = [115, 111, 108, 118, 101]
                              · subst h14
                                rw [hl, str_of s _ hl]; exact rsh_14 w
                              · by_cases h15 : l = [110, 101, 116]
                                · subst h15
                                  rw [hl, str_of s _ hl]; exact rsh_15 w
                                · by_cases h16 : l = [105, 110, 102, 101, 114]
                                  · subst h16
                                    rw [hl, str_of s _ hl]; exact rsh_16 w
                                  · by_cases h17 : l = [114, 101, 115, 101, 116]
                                    · subst h17
                                      rw [hl, str_of s _ hl]; exact rsh_17 w
                                    · have e : Lx.shape l = none := by unfold Lx.shape Lx.shapes; simp only [Lx.shGo, h0, h1, h2, h3, h4, h5, h6, h7, h8, h9, h10, h11, h12, h13, h14, h15, h16, h17, if_false]
                                      rw [hl, e]
                                      exact rsh_none s w (ne_of s _ (by rw [hl]; exact h0)) (ne_of s _ (by rw [hl]; exact h1)) (ne_of s _ (by rw [hl]; exact h2)) (ne_of s _ (by rw [hl]; exact h3)) (ne_of s _ (by rw [hl]; exact h4)) (ne_of s _ (by rw [hl]; exact h5)) (ne_of s _ (by rw [hl]; exact h6)) (ne_of s _ (by rw [hl]; exact h7)) (ne_of s _ (by rw [hl]; exact h8)) (ne_of s _ (by rw [hl]; exact h9)) (ne_of s _ (by rw [hl]; exact h10)) (ne_of s _ (by rw [hl]; exact h11)) (ne_of s _ (by rw [hl]; exact h12)) (ne_of s _ (by rw [hl]; exact h13)) (ne_of s _ (by rw [hl]; exact h14)) (ne_of s _ (by rw [hl]; exact h15)) (ne_of s _ (by rw [hl]; exact h16)) (ne_of s _ (by rw [hl]; exact h17))
structure Bc (w0 w : World) (b : Nat) (cs : Array Value) : Prop where
  bw : Below w0.heap.size w0 w
  box : w.heap[b]? = some (.cells cs 30 (0, 0))
theorem Bc.keep {w0 w w' : World} {b : Nat} {cs : Array Value} (h : Bc w0 w b cs) (q : Below w.heap.size w w') : Bc w0 w' b cs := ⟨h.bw.trans (q.mono h.bw.size), blk_below h.box q⟩
theorem Bc.lt {w0 w : World} {b : Nat} {cs : Array Value} (h : Bc w0 w b cs) : b + 1 ≤ w.heap.size := (Array.getElem?_eq_some_iff.1 h.box).1
set_option maxRecDepth 20000 in
set_option maxHeartbeats 4000000 in
theorem cright_any (w : World) (D : Nat) (cm : Lx.Cm) (g : Cg) (hg : CG w D cm g) (hD : D ≤ 1048576) (hl : (tour cm.ex 1).length ≤ 1048576) (r : Bool) (hr : r = true ↔ RightC cm) :
    Calls Tryd.prog 12 #[.agg (cgC g)] w fun e w' => e = .returned (.bool r) ∧ Below w.heap.size w w' := by
  have HR := Lib.hid hr
  have HG := Lib.hid hg
  obtain ⟨rx, hrx⟩ : ∃ rx : Bool, rx = true ↔ cm.ex = Lx.leaf [] := by classical exact ⟨decide _, decide_eq_true_iff⟩
  obtain ⟨rr, hrr⟩ : ∃ rr : Bool, rr = true ↔ RightL (tour cm.ex 1) := by classical exact ⟨decide _, decide_eq_true_iff⟩
  have HRX := Lib.hid hrx
  have HRR := Lib.hid hrr
  have HSA := Lib.hid (fun W (k : Below w.heap.size w W) => rsame_any D (hV g.z) (tour cm.ex) 1 (.agg #[.int .u8 0, .string ⟨#[]⟩, .slice none 0 0, .slice none 0 0]) (tour (Lx.leaf [])) W (hg.ex.keep k) (ex_leaf' W [] (Nat.zero_le _)) rx (hrx.trans (tour_eq _ _).symm))
  have HRI := Lib.hid (fun W (k : Below w.heap.size w W) => rright_any D (hV g.z) (tour cm.ex) W (hg.ex.keep k) hD hl rr hrr)
  unfold hV pv at HSA HRI
  have HWB : Hid (∀ W, Calls Tryd.prog 25 #[.string g.wb] W fun e w' => e = .returned (.tuple #[.string ⟨((Lx.shape cm.word).getD []).toArray⟩, .bool (Lx.shape cm.word).isSome]) ∧ W = w') := Lib.hid (fun W => by
    have := rshape_any g.wb W
    have e : g.wb.data.toList = cm.word := by rw [hg.wd]
    rw [e, shV_get] at this; exact this)
  obtain ⟨hs4, hlet⟩ := shape_len cm.word
  have HNN := Lib.hid hg.nn
  have HLN : Hid (cm.names.length = g.nl) := Lib.hid (by have := hg.nn.len; simpa using this)
  have HLM : Hid (cm.nums.length = g.ml) := Lib.hid hg.mm.len
  have HRG := Lib.hid hg.rg
  have hnb : (g.nl : Int) ≤ 9223372036854775807 := by have := hg.nn.le; have := hg.nn.top; omega
  have hmb : (g.ml : Int) ≤ 9223372036854775807 := by have := hg.mm.le; have := hg.mm.top; omega
  obtain ⟨wb, an, nl, nc, am, ml, mc, lo, hi, gl, gh, z⟩ := g
  dsimp only at HSA HRI HWB HLN HLM HRG hnb hmb HNN
  obtain ⟨sh, hsh⟩ : ∃ sh, (Lx.shape cm.word).getD [] = sh := ⟨_, rfl⟩
  obtain ⟨ok, hok⟩ : ∃ ok, (Lx.shape cm.word).isSome = ok := ⟨_, rfl⟩
  have HRC : Hid (r = true ↔ ok = true ∧ (∀ x ∈ cm.names, RName ⟨x.toArray⟩) ∧ nl = Lx.cN sh ∧ ml = Lx.cI sh ∧ (gl = false → lo = 0) ∧ (gh = false → hi = 0) ∧ (¬ 114 ∈ sh → lo = 0 ∧ hi = 0 ∧ gl = false ∧ gh = false) ∧ (¬ 101 ∈ sh → cm.ex = Lx.leaf []) ∧ (101 ∈ sh → RightL (tour cm.ex 1))) := Lib.hid (by
    rw [hr]
    constructor
    · rintro ⟨a1, a2, a3, a4, a5, a6, a7, a8, a9⟩
      rw [HRG.out] at a5 a6 a7
      rw [hsh] at a3 a4 a7 a8 a9
      exact ⟨hok ▸ a1, a2, HLN.out ▸ a3, HLM.out ▸ a4, a5, a6, fun q => by have := Lx.Rg.mk.inj (a7 q); exact ⟨this.1, this.2.1, this.2.2.1, this.2.2.2⟩, a8, a9⟩
    · rintro ⟨a1, a2, a3, a4, a5, a6, a7, a8, a9⟩
      refine ⟨hok.trans a1, a2, by rw [hsh, HLN.out]; exact a3, by rw [hsh, HLM.out]; exact a4, by rw [HRG.out]; exact a5, by rw [HRG.out]; exact a6, fun q => ?_, fun q => a8 (hsh ▸ q), fun q => a9 (hsh ▸ q)⟩
      rw [HRG.out]
      obtain ⟨b1, b2, b3, b4⟩ := a7 (hsh ▸ q)
      rw [b1, b2, b3, b4])
  rw [hsh, hok] at HWB
  rw [hsh] at hs4 hlet
  have HLET := Lib.hid hlet
  have HSL := Lib.hid hs4
  have HSS : Hid ((⟨sh.toArray⟩ : ByteArray).size = sh.length) := Lib.hid (by rw [Lib.size_eq])
  obtain ⟨sb, hsb⟩ : ∃ sb : ByteArray, ⟨sh.toArray⟩ = sb := ⟨_, rfl⟩
  have HSG : Hid (∀ j (h : j < sb.size) (h' : j < sh.length), sb[j]'h = sh[j]'h') := Lib.hid (by subst hsb; intro j h h'; rfl)
  rw [hsb] at HSS HWB
  unfold cgC
  dsimp only
  obtain ⟨b, hb⟩ : ∃ z, w.heap.size = z := ⟨_, rfl⟩
  obtain ⟨w1, hw1⟩ : ∃ y, w.alloc (.cells #[.string wb, .slice an nl nc, .slice am ml mc, .int .i64 lo, .int .i64 hi, .bool gl, .bool gh, .int .u8 z.p.op, .string z.p.nm, .slice z.an z.nn z.nc, .slice z.aa z.p.k z.ac] 30) = y := ⟨_, rfl⟩
  have HX : Hid (Bc w w1 b #[.string wb, .slice an nl nc, .slice am ml mc, .int .i64 lo, .int .i64 hi, .bool gl, .bool gh, .int .u8 z.p.op, .string z.p.nm, .slice z.an z.nn z.nc, .slice z.aa z.p.k z.ac]) := Lib.hid ⟨by rw [← hw1]; exact (Below.refl _ w).alloc (Nat.le_refl _) _, by rw [← hw1, ← hb, al_new]⟩
  clear hg hD hl hr hrx hrr hs4 hlet hsh hok hsb HR
  have e0 := cell_blk HX.out.box 0
  have e1 := cell_blk HX.out.box 1
  have e2 := cell_blk HX.out.box 2
  have e3 := cell_blk HX.out.box 3
  have e4 := cell_blk HX.out.box 4
  have e5 := cell_blk HX.out.box 5
  have e6 := cell_blk HX.out.box 6
  have e7 := cell_blk HX.out.box 7
  have e8 := cell_blk HX.out.box 8
  have e9 := cell_blk HX.out.box 9
  have e10 := cell_blk HX.out.box 10
  go_enter Tryd.func12, Tryd.ntmps12
  go_wp2_with fail
  (with_reducible refine (HWB.out _).mono ?_)
  rintro e w3 ⟨rfl, rfl⟩
  clear hw1 hb
  go_upto_region 4 with fail
  have hs1 : (sh.length : Int) ≤ 4 := by have := HSL.out; omega
  go_loopw [5, 6, 7, 8, 9] (fun s5 s6 s7 s8 ii wr => ∃ (j : Nat) (sc ex : Bool), j ≤ sh.length ∧ s5 = .int .i64 (Lx.cN (sh.take j) : Nat) ∧ s6 = .int .i64 (Lx.cI (sh.take j) : Nat) ∧ s7 = .bool sc ∧ s8 = .bool ex ∧ ii = .int .i64 j ∧ w1 = wr ∧ Hid (sc = true ↔ 114 ∈ sh.take j) ∧ Hid (ex = true ↔ 101 ∈ sh.take j)) (fun _ _ _ _ ii _ => sh.length - (intOf ii).toNat)
  case atStart => exact ⟨0, false, false, Nat.zero_le _, rfl, rfl, rfl, rfl, rfl, rfl, Lib.hid (by simp), Lib.hid (by simp)⟩
  case round =>
    obtain ⟨j, sc, ex, hj, rfl, rfl, rfl, rfl, rfl, rfl, HS, HE⟩ := hrel
    have HA2 : Hid (Lx.cN (sh.take j) ≤ 4) := Lib.hid (Nat.le_trans (Lx.cN_len _) (by rw [List.length_take]; have := HSL.out; omega))
    have HI2 : Hid (Lx.cI (sh.take j) ≤ 4) := Lib.hid (Nat.le_trans (Lx.cI_len _) (by rw [List.length_take]; have := HSL.out; omega))
    have j0 : (0 : Int) ≤ (j : Int) := by omega
    by_cases jlt : j < sh.length
    · have jb : j < sb.size := by rw [HSS.out]; exact jlt
      have j1 : (j : Int) < (sb.size : Int) := by omega
      have j2 : (j : Int) ≤ 4 := by omega
      have HCN0 := Lib.hid (Lx.cN_step sh j jlt)
      have HCI0 := Lib.hid (Lx.cI_step sh j jlt)
      obtain ⟨A, hA⟩ : ∃ A, Lx.cN (sh.take j) = A := ⟨_, rfl⟩
      obtain ⟨I, hI⟩ : ∃ I, Lx.cI (sh.take j) = I := ⟨_, rfl⟩
      rw [hA] at HCN0 HA2
      rw [hI] at HCI0 HI2
      simp only [hA, hI]
      have iA : (0 : Int) ≤ (A : Int) := by omega
      have iB : (A : Int) ≤ 4 := by have := HA2.out; omega
      have iC : (0 : Int) ≤ (I : Int) := by omega
      have iD : (I : Int) ≤ 4 := by have := HI2.out; omega
      clear hA hI
      rcases HLET.out _ (List.getElem_mem jlt) with hx | hx | hx | hx | hx
      · have hxx : ((sb[j]'jb).toNat : Int) = 110 := by rw [HSG.out j jb jlt, hx]; rfl
        have HCN : Hid (Lx.cN (sh.take (j + 1)) = A + 1) := Lib.hid (by rw [HCN0.out, hx]; rfl)
        have HCI : Hid (Lx.cI (sh.take (j + 1)) = I) := Lib.hid (by rw [HCI0.out, hx]; rfl)
        have HS2 : Hid ((sc : Bool) = true ↔ 114 ∈ sh.take (j + 1)) := Lib.hid (by rw [List.take_succ_eq_append_getElem jlt, hx, List.mem_append]; simp [HS.out])
        have HE2 : Hid ((ex : Bool) = true ↔ 101 ∈ sh.take (j + 1)) := Lib.hid (by rw [List.take_succ_eq_append_getElem jlt, hx, List.mem_append]; simp [HE.out])
        clear HS HE HCN0 HCI0 hx
        go_wp2_with fail
        go_roundw
        case rel => exact ⟨j + 1, sc, ex, by omega, by rw [HCN.out]; try go_num, by rw [HCI.out]; try go_num, rfl, rfl, by go_num, by first | rfl | trivial, HS2, HE2⟩
        case measure => simp [intOf]; omega
      · have hxx : ((sb[j]'jb).toNat : Int) = 105 := by rw [HSG.out j jb jlt, hx]; rfl
        have HCN : Hid (Lx.cN (sh.take (j + 1)) = A) := Lib.hid (by rw [HCN0.out, hx]; rfl)
        have HCI : Hid (Lx.cI (sh.take (j + 1)) = I + 1) := Lib.hid (by rw [HCI0.out, hx]; rfl)
        have HS2 : Hid ((sc : Bool) = true ↔ 114 ∈ sh.take (j + 1)) := Lib.hid (by rw [List.take_succ_eq_append_getElem jlt, hx, List.mem_append]; simp [HS.out])
        have HE2 : Hid ((ex : Bool) = true ↔ 101 ∈ sh.take (j + 1)) := Lib.hid (by rw [List.take_succ_eq_append_getElem jlt, hx, List.mem_append]; simp [HE.out])
        clear HS HE HCN0 HCI0 hx
        go_wp2_with fail
        go_roundw
        case rel => exact ⟨j + 1, sc, ex, by omega, by rw [HCN.out]; try go_num, by rw [HCI.out]; try go_num, rfl, rfl, by go_num, by first | rfl | trivial, HS2, HE2⟩
        case measure => simp [intOf]; omega
      · have hxx : ((sb[j]'jb).toNat : Int) = 101 := by rw [HSG.out j jb jlt, hx]; rfl
        have HCN : Hid (Lx.cN (sh.take (j + 1)) = A) := Lib.hid (by rw [HCN0.out, hx]; rfl)
        have HCI : Hid (Lx.cI (sh.take (j + 1)) = I) := Lib.hid (by rw [HCI0.out, hx]; rfl)
        have HS2 : Hid ((sc : Bool) = true ↔ 114 ∈ sh.take (j + 1)) := Lib.hid (by rw [List.take_succ_eq_append_getElem jlt, hx, List.mem_append]; simp [HS.out])
        have HE2 : Hid ((true : Bool) = true ↔ 101 ∈ sh.take (j + 1)) := Lib.hid (by rw [List.take_succ_eq_append_getElem jlt, hx, List.mem_append]; simp [HE.out])
        clear HS HE HCN0 HCI0 hx
        go_wp2_with fail
        go_roundw
        case rel => exact ⟨j + 1, sc, true, by omega, by rw [HCN.out]; try go_num, by rw [HCI.out]; try go_num, rfl, rfl, by go_num, by first | rfl | trivial, HS2, HE2⟩
        case measure => simp [intOf]; omega
      · have hxx : ((sb[j]'jb).toNat : Int) = 61 := by rw [HSG.out j jb jlt, hx]; rfl
        have HCN : Hid (Lx.cN (sh.take (j + 1)) = A) := Lib.hid (by rw [HCN0.out, hx]; rfl)
        have HCI : Hid (Lx.cI (sh.take (j + 1)) = I) := Lib.hid (by rw [HCI0.out, hx]; rfl)
        have HS2 : Hid ((sc : Bool) = true ↔ 114 ∈ sh.take (j + 1)) := Lib.hid (by rw [List.take_succ_eq_append_getElem jlt, hx, List.mem_append]; simp [HS.out])
        have HE2 : Hid ((ex : Bool) = true ↔ 101 ∈ sh.take (j + 1)) := Lib.hid (by rw [List.take_succ_eq_append_getElem jlt, hx, List.mem_append]; simp [HE.out])
        clear HS HE HCN0 HCI0 hx
        go_wp2_with fail
        go_roundw
        case rel => exact ⟨j + 1, sc, ex, by omega, by rw [HCN.out]; try go_num, by rw [HCI.out]; try go_num, rfl, rfl, by go_num, by first | rfl | trivial, HS2, HE2⟩
        case measure => simp [intOf]; omega
      · have hxx : ((sb[j]'jb).toNat : Int) = 114 := by rw [HSG.out j jb jlt, hx]; rfl
        have HCN : Hid (Lx.cN (sh.take (j + 1)) = A) := Lib.hid (by rw [HCN0.out, hx]; rfl)
        have HCI : Hid (Lx.cI (sh.take (j + 1)) = I) := Lib.hid (by rw [HCI0.out, hx]; rfl)
        have HS2 : Hid ((true : Bool) = true ↔ 114 ∈ sh.take (j + 1)) := Lib.hid (by rw [List.take_succ_eq_append_getElem jlt, hx, List.mem_append]; simp [HS.out])
        have HE2 : Hid ((ex : Bool) = true ↔ 101 ∈ sh.take (j + 1)) := Lib.hid (by rw [List.take_succ_eq_append_getElem jlt, hx, List.mem_append]; simp [HE.out])
        clear HS HE HCN0 HCI0 hx
        go_wp2_with fail
        go_roundw
        case rel => exact ⟨j + 1, true, ex, by omega, by rw [HCN.out]; try go_num, by rw [HCI.out]; try go_num, rfl, rfl, by go_num, by first | rfl | trivial, HS2, HE2⟩
        case measure => simp [intOf]; omega
    · have j1 : ¬ (j : Int) < (sb.size : Int) := by have := HSS.out; omega
      obtain rfl : sh.length = j := by omega
      rw [List.take_length] at HS HE HA2 HI2 ⊢
      obtain ⟨A, hA⟩ : ∃ A, Lx.cN sh = A := ⟨_, rfl⟩
      obtain ⟨I, hI⟩ : ∃ I, Lx.cI sh = I := ⟨_, rfl⟩
      rw [hA] at HA2 HRC ⊢
      rw [hI] at HI2 HRC ⊢
      have iA : (0 : Int) ≤ (A : Int) := by omega
      have iB : (A : Int) ≤ 4 := by have := HA2.out; omega
      have iC : (0 : Int) ≤ (I : Int) := by omega
      have iD : (I : Int) ≤ 4 := by have := HI2.out; omega
      have HEA := Lib.hid hA
      clear hA hI jlt hj HLET HSG
      go_upto_region 16 with fail
      go_loopw [4, 10] (fun s4 ii wr => ∃ (j : Nat) (q : Bool), j ≤ nl ∧ s4 = .bool q ∧ ii = .int .i64 j ∧ w1 = wr ∧ Hid (q = true ↔ ok = true ∧ ∀ i (h : i < cm.names.length), i < j → RName ⟨(cm.names[i]).toArray⟩)) (fun _ ii _ => nl - (intOf ii).toNat)
      case atStart => exact ⟨0, ok, Nat.zero_le _, rfl, rfl, rfl, Lib.hid ⟨fun q => ⟨q, fun i _ h => absurd h (Nat.not_lt_zero _)⟩, fun q => q.1⟩⟩
      case round =>
        obtain ⟨j, q, hj, rfl, rfl, rfl, HQ⟩ := hrel
        have j0 : (0 : Int) ≤ (j : Int) := by omega
        by_cases jlt : j < nl
        · have j1 : (j : Int) < (nl : Int) := by omega
          cases q
          · have HQ2 : Hid (false = true ↔ ok = true ∧ ∀ i (h : i < cm.names.length), i < j + 1 → RName ⟨(cm.names[i]).toArray⟩) := Lib.hid ⟨fun e => (by cases e), fun e => HQ.out.2 ⟨e.1, fun i h1 h2 => e.2 i h1 (by omega)⟩⟩
            clear HQ
            go_wp2_with fail
            go_roundw
            case rel => exact ⟨j + 1, false, by omega, rfl, by go_num, by first | rfl | trivial, HQ2⟩
            case measure => simp [intOf]; omega
          · have hjn : j < cm.names.length := by rw [HLN.out]; exact jlt
            obtain ⟨nb, np, han, hc⟩ := HNN.out.here (by omega)
            have c1 := cell_keep (hc j (by simpa using hjn)) HX.out.bw
            rw [List.getElem_map] at c1
            obtain ⟨sx, hsx⟩ : ∃ s : ByteArray, ⟨(cm.names[j]).toArray⟩ = s := ⟨_, rfl⟩
            rw [hsx] at c1
            obtain ⟨rn, hrn⟩ : ∃ rn : Bool, rn = true ↔ RName sx := by classical exact ⟨decide _, decide_eq_true_iff⟩
            have HNM := Lib.hid (rnm_name sx w1 rn hrn)
            have HQ2 : Hid (rn = true ↔ ok = true ∧ ∀ i (h : i < cm.names.length), i < j + 1 → RName ⟨(cm.names[i]).toArray⟩) := Lib.hid (by
              have a := HQ.out.1 rfl
              rw [hrn]
              constructor
              · intro e
                refine ⟨a.1, fun i h1 h2 => ?_⟩
                by_cases z : i = j
                · subst z; rw [hsx]; exact e
                · exact a.2 i h1 (by omega)
              · intro e; rw [← hsx]; exact e.2 j hjn (by omega))
            subst han
            clear HQ hc hsx hrn
            go_wp2_with fail
            (with_reducible refine HNM.out.mono ?_)
            rintro e w4 ⟨rfl, rfl⟩
            go_wp2_with fail
            go_roundw
            case rel => exact ⟨j + 1, rn, by omega, rfl, by go_num, by first | rfl | trivial, HQ2⟩
            case measure => simp [intOf]; omega
        · have j1 : ¬ (j : Int) < (nl : Int) := by omega
          obtain rfl : nl = j := by omega
          have HQN : Hid (q = true ↔ ok = true ∧ ∀ x ∈ cm.names, RName ⟨x.toArray⟩) := Lib.hid (by
            rw [HQ.out]
            constructor
            · rintro ⟨a, c⟩
              refine ⟨a, fun x hx => ?_⟩
              obtain ⟨i, hi, rfl⟩ := List.getElem_of_mem hx
              exact c i hi (by have := HLN.out; omega)
            · rintro ⟨a, c⟩
              exact ⟨a, fun i h1 _ => c _ (List.getElem_mem h1)⟩)
          obtain ⟨bq, hbq⟩ : ∃ bq : Bool, bq = true ↔ ((gl = false ∧ lo ≠ 0) ∨ (gh = false ∧ hi ≠ 0) ∨ (sc = false ∧ ¬ (lo = 0 ∧ hi = 0 ∧ gl = false ∧ gh = false))) := by classical exact ⟨decide _, decide_eq_true_iff⟩
          obtain ⟨b5, hb5⟩ : ∃ z, w1.heap.size = z := ⟨_, rfl⟩
          obtain ⟨w5, hw5⟩ : ∃ y, w1.alloc (.cells #[.int .i64 lo, .int .i64 hi, .bool gl, .bool gh] 28) = y := ⟨_, rfl⟩
          have KA : Hid (Below w1.heap.size w1 w5) := Lib.hid (by rw [← hw5]; exact (Below.refl _ w1).alloc (Nat.le_refl _) _)
          have H5 : Hid (w5.heap[b5]? = some (.cells #[.int .i64 lo, .int .i64 hi, .bool gl, .bool gh] 28 (0, 0))) := Lib.hid (by rw [← hw5, ← hb5, al_new])
          have HWX := Lib.hid hw5
          have HBX := Lib.hid hb5
          clear hw5 hb5 HQ jlt hj
          go_upto_region 20 with fail
          rw [HWX.out, HBX.out]
          have HX := Lib.hid (HX.out.keep KA.out)
          clear HWX HBX KA e0 e1 e2 e3 e4 e5 e6 e7 e8 e9 e10
          have e0 := cell_blk HX.out.box 0
          have e1 := cell_blk HX.out.box 1
          have e2 := cell_blk HX.out.box 2
          have e3 := cell_blk HX.out.box 3
          have e4 := cell_blk HX.out.box 4
          have e5 := cell_blk HX.out.box 5
          have e6 := cell_blk HX.out.box 6
          have e7 := cell_blk HX.out.box 7
          have e8 := cell_blk HX.out.box 8
          have e9 := cell_blk HX.out.box 9
          have e10 := cell_blk HX.out.box 10
          have f0 := cell_blk H5.out 0
          have f1 := cell_blk H5.out 1
          have f2 := cell_blk H5.out 2
          have f3 := cell_blk H5.out 3
          go_cut [83] from 57 to 83 (fun s83 wx => s83 = .bool bq ∧ wx = w5)
          case first =>
            cases gl
            · cases gh
              · cases sc
                · by_cases l0 : lo = 0
                  · subst l0
                    by_cases h0 : hi = 0
                    · subst h0
                      have g9 : bq = false := by cases bq; rfl; exact absurd (hbq.1 rfl) (by simp)
                      clear hbq
                      go_wp2_with fail
                      go_meet
                      case rel => exact ⟨by rw [g9], rfl⟩
                    · have k1 : (hi != 0) = true := by rw [bne_iff_ne]; exact h0
                      have k2 : (hi == 0) = false := by rw [beq_eq_false_iff_ne]; exact h0
                      have g9 : bq = true := hbq.2 (by simp [h0])
                      clear hbq h0
                      go_wp2_with fail
                      go_meet
                      case rel => exact ⟨by rw [g9], rfl⟩
                  · by_cases h0 : hi = 0
                    · subst h0
                      have l1 : (lo != 0) = true := by rw [bne_iff_ne]; exact l0
                      have l2 : (lo == 0) = false := by rw [beq_eq_false_iff_ne]; exact l0
                      have g9 : bq = true := hbq.2 (by simp [l0])
                      clear hbq l0
                      go_wp2_with fail
                      go_meet
                      case rel => exact ⟨by rw [g9], rfl⟩
                    · have l1 : (lo != 0) = true := by rw [bne_iff_ne]; exact l0
                      have l2 : (lo == 0) = false := by rw [beq_eq_false_iff_ne]; exact l0
                      have k1 : (hi != 0) = true := by rw [bne_iff_ne]; exact h0
                      have k2 : (hi == 0) = false := by rw [beq_eq_false_iff_ne]; exact h0
                      have g9 : bq = true := hbq.2 (by simp [l0, h0])
                      clear hbq l0 h0
                      go_wp2_with fail
                      go_meet
                      case rel => exact ⟨by rw [g9], rfl⟩
                · by_cases l0 : lo = 0
                  · subst l0
                    by_cases h0 : hi = 0
                    · subst h0
                      have g9 : bq = false := by cases bq; rfl; exact absurd (hbq.1 rfl) (by simp)
                      clear hbq
                      go_wp2_with fail
                      go_meet
                      case rel => exact ⟨by rw [g9], rfl⟩
                    · have k1 : (hi != 0) = true := by rw [bne_iff_ne]; exact h0
                      have k2 : (hi == 0) = false := by rw [beq_eq_false_iff_ne]; exact h0
                      have g9 : bq = true := hbq.2 (by simp [h0])
                      clear hbq h0
                      go_wp2_with fail
                      go_meet
                      case rel => exact ⟨by rw [g9], rfl⟩
                  · by_cases h0 : hi = 0
                    · subst h0
                      have l1 : (lo != 0) = true := by rw [bne_iff_ne]; exact l0
                      have l2 : (lo == 0) = false := by rw [beq_eq_false_iff_ne]; exact l0
                      have g9 : bq = true := hbq.2 (by simp [l0])
                      clear hbq l0
                      go_wp2_with fail
                      go_meet
                      case rel => exact ⟨by rw [g9], rfl⟩
                    · have l1 : (lo != 0) = true := by rw [bne_iff_ne]; exact l0
                      have l2 : (lo == 0) = false := by rw [beq_eq_false_iff_ne]; exact l0
                      have k1 : (hi != 0) = true := by rw [bne_iff_ne]; exact h0
                      have k2 : (hi == 0) = false := by rw [beq_eq_false_iff_ne]; exact h0
                      have g9 : bq = true := hbq.2 (by simp [l0, h0])
                      clear hbq l0 h0
                      go_wp2_with fail
                      go_meet
                      case rel => exact ⟨by rw [g9], rfl⟩
              · cases sc
                · by_cases l0 : lo = 0
                  · subst l0
                    by_cases h0 : hi = 0
                    · subst h0
                      have g9 : bq = true := hbq.2 (by simp)
                      clear hbq
                      go_wp2_with fail
                      go_meet
                      case rel => exact ⟨by rw [g9], rfl⟩
                    · have k1 : (hi != 0) = true := by rw [bne_iff_ne]; exact h0
                      have k2 : (hi == 0) = false := by rw [beq_eq_false_iff_ne]; exact h0
                      have g9 : bq = true := hbq.2 (by simp [h0])
                      clear hbq h0
                      go_wp2_with fail
                      go_meet
                      case rel => exact ⟨by rw [g9], rfl⟩
                  · by_cases h0 : hi = 0
                    · subst h0
                      have l1 : (lo != 0) = true := by rw [bne_iff_ne]; exact l0
                      have l2 : (lo == 0) = false := by rw [beq_eq_false_iff_ne]; exact l0
                      have g9 : bq = true := hbq.2 (by simp [l0])
                      clear hbq l0
                      go_wp2_with fail
                      go_meet
                      case rel => exact ⟨by rw [g9], rfl⟩
                    · have l1 : (lo != 0) = true := by rw [bne_iff_ne]; exact l0
                      have l2 : (lo == 0) = false := by rw [beq_eq_false_iff_ne]; exact l0
                      have k1 : (hi != 0) = true := by rw [bne_iff_ne]; exact h0
                      have k2 : (hi == 0) = false := by rw [beq_eq_false_iff_ne]; exact h0
                      have g9 : bq = true := hbq.2 (by simp [l0, h0])
                      clear hbq l0 h0
                      go_wp2_with fail
                      go_meet
                      case rel => exact ⟨by rw [g9], rfl⟩
                · by_cases l0 : lo = 0
                  · subst l0
                    by_cases h0 : hi = 0
                    · subst h0
                      have g9 : bq = false := by cases bq; rfl; exact absurd (hbq.1 rfl) (by simp)
                      clear hbq
                      go_wp2_with fail
                      go_meet
                      case rel => exact ⟨by rw [g9], rfl⟩
                    · have k1 : (hi != 0) = true := by rw [bne_iff_ne]; exact h0
                      have k2 : (hi == 0) = false := by rw [beq_eq_false_iff_ne]; exact h0
                      have g9 : bq = false := by cases bq; rfl; exact absurd (hbq.1 rfl) (by simp)
                      clear hbq h0
                      go_wp2_with fail
                      go_meet
                      case rel => exact ⟨by rw [g9], rfl⟩
                  · by_cases h0 : hi = 0
                    · subst h0
                      have l1 : (lo != 0) = true := by rw [bne_iff_ne]; exact l0
                      have l2 : (lo == 0) = false := by rw [beq_eq_false_iff_ne]; exact l0
                      have g9 : bq = true := hbq.2 (by simp [l0])
                      clear hbq l0
                      go_wp2_with fail
                      go_meet
                      case rel => exact ⟨by rw [g9], rfl⟩
                    · have l1 : (lo != 0) = true := by rw [bne_iff_ne]; exact l0
                      have l2 : (lo == 0) = false := by rw [beq_eq_false_iff_ne]; exact l0
                      have k1 : (hi != 0) = true := by rw [bne_iff_ne]; exact h0
                      have k2 : (hi == 0) = false := by rw [beq_eq_false_iff_ne]; exact h0
                      have g9 : bq = true := hbq.2 (by simp [l0, h0])
                      clear hbq l0 h0
                      go_wp2_with fail
                      go_meet
                      case rel => exact ⟨by rw [g9], rfl⟩
            · cases gh
              · cases sc
                · by_cases l0 : lo = 0
                  · subst l0
                    by_cases h0 : hi = 0
                    · subst h0
                      have g9 : bq = true := hbq.2 (by simp)
                      clear hbq
                      go_wp2_with fail
                      go_meet
                      case rel => exact ⟨by rw [g9], rfl⟩
                    · have k1 : (hi != 0) = true := by rw [bne_iff_ne]; exact h0
                      have k2 : (hi == 0) = false := by rw [beq_eq_false_iff_ne]; exact h0
                      have g9 : bq = true := hbq.2 (by simp [h0])
                      clear hbq h0
                      go_wp2_with fail
                      go_meet
                      case rel => exact ⟨by rw [g9], rfl⟩
                  · by_cases h0 : hi = 0
                    · subst h0
                      have l1 : (lo != 0) = true := by rw [bne_iff_ne]; exact l0
                      have l2 : (lo == 0) = false := by rw [beq_eq_false_iff_ne]; exact l0
                      have g9 : bq = true := hbq.2 (by simp [l0])
                      clear hbq l0
                      go_wp2_with fail
                      go_meet
                      case rel => exact ⟨by rw [g9], rfl⟩
                    · have l1 : (lo != 0) = true := by rw [bne_iff_ne]; exact l0
                      have l2 : (lo == 0) = false := by rw [beq_eq_false_iff_ne]; exact l0
                      have k1 : (hi != 0) = true := by rw [bne_iff_ne]; exact h0
                      have k2 : (hi == 0) = false := by rw [beq_eq_false_iff_ne]; exact h0
                      have g9 : bq = true := hbq.2 (by simp [l0, h0])
                      clear hbq l0 h0
                      go_wp2_with fail
                      go_meet
                      case rel => exact ⟨by rw [g9], rfl⟩
                · by_cases l0 : lo = 0
                  · subst l0
                    by_cases h0 : hi = 0
                    · subst h0
                      have g9 : bq = false := by cases bq; rfl; exact absurd (hbq.1 rfl) (by simp)
                      clear hbq
                      go_wp2_with fail
                      go_meet
                      case rel => exact ⟨by rw [g9], rfl⟩
                    · have k1 : (hi != 0) = true := by rw [bne_iff_ne]; exact h0
                      have k2 : (hi == 0) = false := by rw [beq_eq_false_iff_ne]; exact h0
                      have g9 : bq = true := hbq.2 (by simp [h0])
                      clear hbq h0
                      go_wp2_with fail
                      go_meet
                      case rel => exact ⟨by rw [g9], rfl⟩
                  · by_cases h0 : hi = 0
                    · subst h0
                      have l1 : (lo != 0) = true := by rw [bne_iff_ne]; exact l0
                      have l2 : (lo == 0) = false := by rw [beq_eq_false_iff_ne]; exact l0
                      have g9 : bq = false := by cases bq; rfl; exact absurd (hbq.1 rfl) (by simp)
                      clear hbq l0
                      go_wp2_with fail
                      go_meet
                      case rel => exact ⟨by rw [g9], rfl⟩
                    · have l1 : (lo != 0) = true := by rw [bne_iff_ne]; exact l0
                      have l2 : (lo == 0) = false := by rw [beq_eq_false_iff_ne]; exact l0
                      have k1 : (hi != 0) = true := by rw [bne_iff_ne]; exact h0
                      have k2 : (hi == 0) = false := by rw [beq_eq_false_iff_ne]; exact h0
                      have g9 : bq = true := hbq.2 (by simp [l0, h0])
                      clear hbq l0 h0
                      go_wp2_with fail
                      go_meet
                      case rel => exact ⟨by rw [g9], rfl⟩
              · cases sc
                · by_cases l0 : lo = 0
                  · subst l0
                    by_cases h0 : hi = 0
                    · subst h0
                      have g9 : bq = true := hbq.2 (by simp)
                      clear hbq
                      go_wp2_with fail
                      go_meet
                      case rel => exact ⟨by rw [g9], rfl⟩
                    · have k1 : (hi != 0) = true := by rw [bne_iff_ne]; exact h0
                      have k2 : (hi == 0) = false := by rw [beq_eq_false_iff_ne]; exact h0
                      have g9 : bq = true := hbq.2 (by simp [h0])
                      clear hbq h0
                      go_wp2_with fail
                      go_meet
                      case rel => exact ⟨by rw [g9], rfl⟩
                  · by_cases h0 : hi = 0
                    · subst h0
                      have l1 : (lo != 0) = true := by rw [bne_iff_ne]; exact l0
                      have l2 : (lo == 0) = false := by rw [beq_eq_false_iff_ne]; exact l0
                      have g9 : bq = true := hbq.2 (by simp [l0])
                      clear hbq l0
                      go_wp2_with fail
                      go_meet
                      case rel => exact ⟨by rw [g9], rfl⟩
                    · have l1 : (lo != 0) = true := by rw [bne_iff_ne]; exact l0
                      have l2 : (lo == 0) = false := by rw [beq_eq_false_iff_ne]; exact l0
                      have k1 : (hi != 0) = true := by rw [bne_iff_ne]; exact h0
                      have k2 : (hi == 0) = false := by rw [beq_eq_false_iff_ne]; exact h0
                      have g9 : bq = true := hbq.2 (by simp [l0, h0])
                      clear hbq l0 h0
                      go_wp2_with fail
                      go_meet
                      case rel => exact ⟨by rw [g9], rfl⟩
                · by_cases l0 : lo = 0
                  · subst l0
                    by_cases h0 : hi = 0
                    · subst h0
                      have g9 : bq = false := by cases bq; rfl; exact absurd (hbq.1 rfl) (by simp)
                      clear hbq
                      go_wp2_with fail
                      go_meet
                      case rel => exact ⟨by rw [g9], rfl⟩
                    · have k1 : (hi != 0) = true := by rw [bne_iff_ne]; exact h0
                      have k2 : (hi == 0) = false := by rw [beq_eq_false_iff_ne]; exact h0
                      have g9 : bq = false := by cases bq; rfl; exact absurd (hbq.1 rfl) (by simp)
                      clear hbq h0
                      go_wp2_with fail
                      go_meet
                      case rel => exact ⟨by rw [g9], rfl⟩
                  · by_cases h0 : hi = 0
                    · subst h0
                      have l1 : (lo != 0) = true := by rw [bne_iff_ne]; exact l0
                      have l2 : (lo == 0) = false := by rw [beq_eq_false_iff_ne]; exact l0
                      have g9 : bq = false := by cases bq; rfl; exact absurd (hbq.1 rfl) (by simp)
                      clear hbq l0
                      go_wp2_with fail
                      go_meet
                      case rel => exact ⟨by rw [g9], rfl⟩
                    · have l1 : (lo != 0) = true := by rw [bne_iff_ne]; exact l0
                      have l2 : (lo == 0) = false := by rw [beq_eq_false_iff_ne]; exact l0
                      have k1 : (hi != 0) = true := by rw [bne_iff_ne]; exact h0
                      have k2 : (hi == 0) = false := by rw [beq_eq_false_iff_ne]; exact h0
                      have g9 : bq = false := by cases bq; rfl; exact absurd (hbq.1 rfl) (by simp)
                      clear hbq l0 h0
                      go_wp2_with fail
                      go_meet
                      case rel => exact ⟨by rw [g9], rfl⟩
          case rest =>
            obtain ⟨rfl, hwx⟩ := hcut
            rw [hwx]
            clear hwx f0 f1 f2 f3
            cases bq
            · have HBQ := Lib.hid hbq
              clear hbq
              obtain ⟨eq, heq⟩ : ∃ eq : Bool, eq = true ↔ ((ex = false ∧ rx = false) ∨ (ex = true ∧ rr = false)) := by classical exact ⟨decide _, decide_eq_true_iff⟩
              go_upto_region 22 with fail
              go_cut [101] from 84 to 101 (fun s101 wx => s101 = .bool eq ∧ Hid (Bc w wx b #[.string wb, .slice an nl nc, .slice am ml mc, .int .i64 lo, .int .i64 hi, .bool gl, .bool gh, .int .u8 z.p.op, .string z.p.nm, .slice z.an z.nn z.nc, .slice z.aa z.p.k z.ac]))
              case first =>
                cases ex
                · have HX1 := Lib.hid (HSA.out _ HX.out.bw)
                  have g9 : eq = !rx := by cases eq <;> cases rx <;> simp at heq ⊢
                  clear heq
                  go_wp2_with fail
                  (with_reducible refine HX1.out.mono ?_)
                  rintro e w6 ⟨rfl, q9⟩
                  have HX := Lib.hid (HX.out.keep q9)
                  cases rx
                  · go_wp2_with fail
                    go_meet
                    case rel => exact ⟨by rw [g9]; rfl, HX⟩
                  · go_wp2_with fail
                    go_meet
                    case rel => exact ⟨by rw [g9]; rfl, HX⟩
                · have HX1 := Lib.hid (HRI.out _ HX.out.bw)
                  have g9 : eq = !rr := by cases eq <;> cases rr <;> simp at heq ⊢
                  clear heq
                  go_wp2_with fail
                  (with_reducible refine HX1.out.mono ?_)
                  rintro e w6 ⟨rfl, q9⟩
                  have HX := Lib.hid (HX.out.keep q9)
                  cases rr
                  · go_wp2_with fail
                    go_meet
                    case rel => exact ⟨by rw [g9]; rfl, HX⟩
                  · go_wp2_with fail
                    go_meet
                    case rel => exact ⟨by rw [g9]; rfl, HX⟩
              case rest =>
                obtain ⟨rfl, HX9⟩ := hcut
                have HX := HX9
                clear e0 e1 e2 e3 e4 e5 e6 e7 e8 e9 e10
                have e0 := cell_blk HX.out.box 0
                have e1 := cell_blk HX.out.box 1
                have e2 := cell_blk HX.out.box 2
                have e3 := cell_blk HX.out.box 3
                have e4 := cell_blk HX.out.box 4
                have e5 := cell_blk HX.out.box 5
                have e6 := cell_blk HX.out.box 6
                have e7 := cell_blk HX.out.box 7
                have e8 := cell_blk HX.out.box 8
                have e9 := cell_blk HX.out.box 9
                have e10 := cell_blk HX.out.box 10
                cases eq
                · have HEQ := Lib.hid heq
                  clear heq
                  by_cases n1 : nl = A
                  · have n2 : ((nl : Int) == (A : Int)) = true := by rw [n1]; exact beq_self_eq_true _
                    by_cases m1 : ml = I
                    · have m2 : ((ml : Int) == (I : Int)) = true := by rw [m1]; exact beq_self_eq_true _
                      obtain rfl : r = q := (by
                        have a := HRC.out
                        have d1 : (gl = false → lo = 0) ∧ (gh = false → hi = 0) ∧ (¬ 114 ∈ sh → lo = 0 ∧ hi = 0 ∧ gl = false ∧ gh = false) := by
                          have b := HBQ.out
                          refine ⟨fun x1 => ?_, fun x1 => ?_, fun x1 => ?_⟩
                          · by_cases y : lo = 0
                            · exact y
                            · exact absurd (b.2 (.inl ⟨x1, y⟩)) (by decide)
                          · by_cases y : hi = 0
                            · exact y
                            · exact absurd (b.2 (.inr (.inl ⟨x1, y⟩))) (by decide)
                          · by_cases y : lo = 0 ∧ hi = 0 ∧ gl = false ∧ gh = false
                            · exact y
                            · refine absurd (b.2 (.inr (.inr ⟨?_, y⟩))) (by decide)
                              cases sc
                              · rfl
                              · exact absurd (HS.out.1 rfl) x1
                        have d2 : (¬ 101 ∈ sh → cm.ex = Lx.leaf []) ∧ (101 ∈ sh → RightL (tour cm.ex 1)) := by
                          have b := HEQ.out
                          refine ⟨fun x1 => HRX.out.1 ?_, fun x1 => HRR.out.1 ?_⟩
                          · cases rx
                            · refine absurd (b.2 (.inl ⟨?_, rfl⟩)) (by decide)
                              cases ex
                              · rfl
                              · exact absurd (HE.out.1 rfl) x1
                            · rfl
                          · cases rr
                            · exact absurd (b.2 (.inr ⟨HE.out.2 x1, rfl⟩)) (by decide)
                            · rfl
                        cases q
                        · cases r
                          · rfl
                          · have c := a.1 rfl
                            exact absurd (HQN.out.2 ⟨c.1, c.2.1⟩) (by decide)
                        · have c := HQN.out.1 rfl
                          exact a.2 ⟨c.1, c.2, n1, m1, d1.1, d1.2.1, d1.2.2, d2.1, d2.2⟩)
                      clear n1 m1
                      cases r
                      · go_wp2_with fail
                        go_returns
                        exact ⟨rfl, HX.out.bw⟩
                      · go_wp2_with fail
                        go_returns
                        exact ⟨rfl, HX.out.bw⟩
                    · have m2 : ((ml : Int) == (I : Int)) = false := by rw [beq_eq_false_iff_ne]; omega
                      obtain rfl : r = false := by
                        cases r
                        · rfl
                        · exact absurd (HRC.out.1 rfl).2.2.2.1 m1
                      clear n1 m1
                      cases q
                      · go_wp2_with fail
                        go_returns
                        exact ⟨rfl, HX.out.bw⟩
                      · go_wp2_with fail
                        go_returns
                        exact ⟨rfl, HX.out.bw⟩
                  · have n2 : ((nl : Int) == (A : Int)) = false := by rw [beq_eq_false_iff_ne]; omega
                    obtain rfl : r = false := by
                      cases r
                      · rfl
                      · exact absurd (HRC.out.1 rfl).2.2.1 n1
                    clear n1
                    cases q
                    · go_wp2_with fail
                      go_returns
                      exact ⟨rfl, HX.out.bw⟩
                    · go_wp2_with fail
                      go_returns
                      exact ⟨rfl, HX.out.bw⟩
                · obtain rfl : r = false := by
                    cases r
                    · rfl
                    · have a := (HRC.out.1 rfl).2.2.2.2.2.2.2
                      rcases heq.1 rfl with ⟨x1, x2⟩ | ⟨x1, x2⟩
                      · exact absurd (HRX.out.2 (a.1 (fun y => by rw [HE.out.2 y] at x1; cases x1))) (by rw [x2]; decide)
                      · exact absurd (HRR.out.2 (a.2 (HE.out.1 x1))) (by rw [x2]; decide)
                  go_wp2_with fail
                  go_returns
                  exact ⟨rfl, HX.out.bw⟩
            · obtain rfl : r = false := by
                cases r
                · rfl
                · have a := (HRC.out.1 rfl).2.2.2.2
                  rcases hbq.1 rfl with ⟨x1, x2⟩ | ⟨x1, x2⟩ | ⟨x1, x2⟩
                  · exact absurd (a.1 x1) x2
                  · exact absurd (a.2.1 x1) x2
                  · exact absurd (a.2.2.1 (fun y => by rw [HS.out.2 y] at x1; cases x1)) x2
              go_wp2_with fail
              go_returns
              exact ⟨rfl, HX.out.bw⟩
end Go.Proofs.YtimjendkpjojoaaDoor
