/- Q9, M17, M18, M19 in one. -/
import Derived.Test.YtllhcpkpbipjlaaDoorKan
import Derived.Test.YtllhcpkpbipjlaaDoorKap
namespace Go.Proofs.YtllhcpkpbipjlaaDoor
set_option linter.unusedVariables false
set_option linter.unusedSimpArgs false
open Go.ChangeShapes Go.WideShapes Go.ChangeAt Go.RowKit

namespace Lx
def rgW (r : Rg) : List Tk := (4, [91], 0) :: ((if r.hl = true then [(2, [], r.low)] else []) ++ (4, [58], 0) :: ((if r.hh = true then [(2, [], r.high)] else []) ++ [(4, [93], 0)]))
/-- The words of a shape's letter. -/
def letW (c : Cm) (x : UInt8) (a b : Nat) : List Tk :=
  if x = 110 then [(1, c.names.getD a [], 0)] else if x = 105 then [(2, [], c.nums.getD b 0)] else if x = 101 then wordsX c.ex else if x = 61 then [(4, [61], 0)] else rgW c.rg
def upN (x : UInt8) : Nat := if x = 110 then 1 else 0
def upI (x : UInt8) : Nat := if x = 105 then 1 else 0
def cN : List UInt8 → Nat
  | [] => 0
  | x :: r => upN x + cN r
def cI : List UInt8 → Nat
  | [] => 0
  | x :: r => upI x + cI r
def shW (c : Cm) : List UInt8 → Nat → Nat → List Tk
  | [], _, _ => []
  | x :: r, a, b => letW c x a b ++ shW c r (a + upN x) (b + upI x)
def toldC (c : Cm) (sh : List UInt8) : List Tk := (1, c.word, 0) :: shW c sh 0 0
theorem shW_app (c : Cm) : ∀ (p q : List UInt8) (a b : Nat), shW c (p ++ q) a b = shW c p a b ++ shW c q (a + cN p) (b + cI p)
  | [], q, a, b => by rw [shW, cN, cI]; rfl
  | x :: r, q, a, b => by
    rw [List.cons_append, shW, shW, shW_app c r q, cN, cI, List.append_assoc, Nat.add_assoc, Nat.add_assoc]
theorem cN_app : ∀ p q : List UInt8, cN (p ++ q) = cN p + cN q
  | [], q => by rw [cN]; simp
  | x :: r, q => by rw [List.cons_append, cN, cN, cN_app r q]; omega
theorem cI_app : ∀ p q : List UInt8, cI (p ++ q) = cI p + cI q
  | [], q => by rw [cI]; simp
  | x :: r, q => by rw [List.cons_append, cI, cI, cI_app r q]; omega
theorem cN_len : ∀ p : List UInt8, cN p ≤ p.length
  | [] => Nat.le_refl _
  | x :: r => by have := cN_len r; rw [cN, List.length_cons]; unfold upN; split <;> omega
theorem cI_len : ∀ p : List UInt8, cI p ≤ p.length
  | [] => Nat.le_refl _
  | x :: r => by have := cI_len r; rw [cI, List.length_cons]; unfold upI; split <;> omega
theorem shW_step (c : Cm) (sh : List UInt8) (j : Nat) (h : j < sh.length) : shW c (sh.take (j + 1)) 0 0 = shW c (sh.take j) 0 0 ++ letW c sh[j] (cN (sh.take j)) (cI (sh.take j)) := by
  rw [List.take_succ_eq_append_getElem h, shW_app, shW, shW, List.append_nil, Nat.zero_add, Nat.zero_add]
theorem cN_step (sh : List UInt8) (j : Nat) (h : j < sh.length) : cN (sh.take (j + 1)) = cN (sh.take j) + upN sh[j] := by
  rw [List.take_succ_eq_append_getElem h, cN_app, cN, cN]; omega
theorem cI_step (sh : List UInt8) (j : Nat) (h : j < sh.length) : cI (sh.take (j + 1)) = cI (sh.take j) + upI sh[j] := by
  rw [List.take_succ_eq_append_getElem h, cI_app, cI, cI]; omega
theorem cN_take (sh : List UInt8) (j : Nat) (h : j < sh.length) (hx : sh[j] = 110) : cN (sh.take j) < cN sh := by
  have := congrArg cN (List.take_append_drop (j + 1) sh)
  rw [cN_app, cN_step sh j h, hx] at this
  have e : upN 110 = 1 := rfl
  omega
theorem cI_take (sh : List UInt8) (j : Nat) (h : j < sh.length) (hx : sh[j] = 105) : cI (sh.take j) < cI sh := by
  have := congrArg cI (List.take_append_drop (j + 1) sh)
  rw [cI_app, cI_step sh j h, hx] at this
  have e : upI 105 = 1 := rfl
  omega
theorem rgW_len (r : Rg) : (rgW r).length ≤ 5 := by
  unfold rgW; split <;> split <;> simp
theorem letW_len (c : Cm) (x : UInt8) (a b : Nat) (h : x = 101 → (wordsX c.ex).length ≤ 19999) : (letW c x a b).length ≤ 19999 := by
  have := rgW_len c.rg
  unfold letW
  split
  · simp
  · split
    · simp
    · split
      · rename_i e; exact h e
      · split
        · simp
        · omega
theorem shW_len (c : Cm) : ∀ (p : List UInt8) (a b : Nat), (101 ∈ p → (wordsX c.ex).length ≤ 19999) → (shW c p a b).length ≤ 19999 * p.length
  | [], a, b, _ => by rw [shW]; exact Nat.zero_le _
  | x :: r, a, b, h => by
    have h1 := letW_len c x a b (fun e => h (by rw [e]; exact List.mem_cons_self))
    have h2 := shW_len c r (a + upN x) (b + upI x) (fun e => h (List.mem_cons_of_mem _ e))
    rw [shW, List.length_append, List.length_cons]; omega
/-- The shapes that there are. -/
def shapesL : List (List UInt8) := [[110, 61, 101], [110], [110, 105], [110, 110], [110, 110, 105], [110, 110, 110, 114], [105], [105, 105, 105], []]
theorem shape_in {w sh : List UInt8} (h : shape w = some sh) : sh ∈ shapesL := by
  obtain ⟨p, hp, rfl⟩ := shGo_mem shapes w sh h
  have e : ∀ x ∈ shapes, x.2 ∈ shapesL := by decide
  exact e p hp
theorem shape_let {sh : List UInt8} (h : sh ∈ shapesL) : sh.length ≤ 4 ∧ ∀ x ∈ sh, x = 110 ∨ x = 105 ∨ x = 101 ∨ x = 61 ∨ x = 114 := by
  have e : ∀ s ∈ shapesL, s.length ≤ 4 ∧ ∀ x ∈ s, x = 110 ∨ x = 105 ∨ x = 101 ∨ x = 61 ∨ x = 114 := by decide
  exact e sh h
end Lx
theorem rsh_0 (w : World) : Calls Tryd.prog 12 #[.string ⟨#[100, 101, 102, 105, 110, 101]⟩] w fun e w' => e = .returned (.tuple #[.string ⟨#[110, 61, 101]⟩, .bool true]) ∧ w = w' := by
  go_enter Tryd.func12, Tryd.ntmps12
  go_wp2
  go_returns
  exact ⟨rfl, rfl⟩
theorem rsh_1 (w : World) : Calls Tryd.prog 12 #[.string ⟨#[100, 114, 111, 112]⟩] w fun e w' => e = .returned (.tuple #[.string ⟨#[110]⟩, .bool true]) ∧ w = w' := by
  go_enter Tryd.func12, Tryd.ntmps12
  go_wp2
  go_returns
  exact ⟨rfl, rfl⟩
theorem rsh_2 (w : World) : Calls Tryd.prog 12 #[.string ⟨#[115, 104, 111, 119]⟩] w fun e w' => e = .returned (.tuple #[.string ⟨#[110]⟩, .bool true]) ∧ w = w' := by
  go_enter Tryd.func12, Tryd.ntmps12
  go_wp2
  go_returns
  exact ⟨rfl, rfl⟩
theorem rsh_3 (w : World) : Calls Tryd.prog 12 #[.string ⟨#[102, 111, 114, 109]⟩] w fun e w' => e = .returned (.tuple #[.string ⟨#[110]⟩, .bool true]) ∧ w = w' := by
  go_enter Tryd.func12, Tryd.ntmps12
  go_wp2
  go_returns
  exact ⟨rfl, rfl⟩
theorem rsh_4 (w : World) : Calls Tryd.prog 12 #[.string ⟨#[118, 97, 114]⟩] w fun e w' => e = .returned (.tuple #[.string ⟨#[110]⟩, .bool true]) ∧ w = w' := by
  go_enter Tryd.func12, Tryd.ntmps12
  go_wp2
  go_returns
  exact ⟨rfl, rfl⟩
theorem rsh_5 (w : World) : Calls Tryd.prog 12 #[.string ⟨#[101, 120, 116, 101, 110, 116]⟩] w fun e w' => e = .returned (.tuple #[.string ⟨#[110, 105]⟩, .bool true]) ∧ w = w' := by
  go_enter Tryd.func12, Tryd.ntmps12
  go_wp2
  go_returns
  exact ⟨rfl, rfl⟩
theorem rsh_6 (w : World) : Calls Tryd.prog 12 #[.string ⟨#[103, 114, 97, 110, 117, 108, 101]⟩] w fun e w' => e = .returned (.tuple #[.string ⟨#[110, 105]⟩, .bool true]) ∧ w = w' := by
  go_enter Tryd.func12, Tryd.ntmps12
  go_wp2
  go_returns
  exact ⟨rfl, rfl⟩
theorem rsh_7 (w : World) : Calls Tryd.prog 12 #[.string ⟨#[110, 101, 120, 116]⟩] w fun e w' => e = .returned (.tuple #[.string ⟨#[110, 105]⟩, .bool true]) ∧ w = w' := by
  go_enter Tryd.func12, Tryd.ntmps12
  go_wp2
  go_returns
  exact ⟨rfl, rfl⟩
theorem rsh_8 (w : World) : Calls Tryd.prog 12 #[.string ⟨#[112, 114, 101, 118]⟩] w fun e w' => e = .returned (.tuple #[.string ⟨#[110, 105]⟩, .bool true]) ∧ w = w' := by
  go_enter Tryd.func12, Tryd.ntmps12
  go_wp2
  go_returns
  exact ⟨rfl, rfl⟩
theorem rsh_9 (w : World) : Calls Tryd.prog 12 #[.string ⟨#[115, 112, 97, 110]⟩] w fun e w' => e = .returned (.tuple #[.string ⟨#[110, 105]⟩, .bool true]) ∧ w = w' := by
  go_enter Tryd.func12, Tryd.ntmps12
  go_wp2
  go_returns
  exact ⟨rfl, rfl⟩
theorem rsh_10 (w : World) : Calls Tryd.prog 12 #[.string ⟨#[114, 101, 108]⟩] w fun e w' => e = .returned (.tuple #[.string ⟨#[110, 110]⟩, .bool true]) ∧ w = w' := by
  go_enter Tryd.func12, Tryd.ntmps12
  go_wp2
  go_returns
  exact ⟨rfl, rfl⟩
theorem rsh_11 (w : World) : Calls Tryd.prog 12 #[.string ⟨#[99, 111, 118, 101, 114]⟩] w fun e w' => e = .returned (.tuple #[.string ⟨#[110, 110, 105]⟩, .bool true]) ∧ w = w' := by
  go_enter Tryd.func12, Tryd.ntmps12
  go_wp2
  go_returns
  exact ⟨rfl, rfl⟩
theorem rsh_12 (w : World) : Calls Tryd.prog 12 #[.string ⟨#[98, 111, 117, 110, 100]⟩] w fun e w' => e = .returned (.tuple #[.string ⟨#[110, 110, 110, 114]⟩, .bool true]) ∧ w = w' := by
  go_enter Tryd.func12, Tryd.ntmps12
  go_wp2
  go_returns
  exact ⟨rfl, rfl⟩
theorem rsh_13 (w : World) : Calls Tryd.prog 12 #[.string ⟨#[100, 97, 116, 101]⟩] w fun e w' => e = .returned (.tuple #[.string ⟨#[105]⟩, .bool true]) ∧ w = w' := by
  go_enter Tryd.func12, Tryd.ntmps12
  go_wp2
  go_returns
  exact ⟨rfl, rfl⟩
theorem rsh_14 (w : World) : Calls Tryd.prog 12 #[.string ⟨#[115, 111, 108, 118, 101]⟩] w fun e w' => e = .returned (.tuple #[.string ⟨#[105, 105, 105]⟩, .bool true]) ∧ w = w' := by
  go_enter Tryd.func12, Tryd.ntmps12
  go_wp2
  go_returns
  exact ⟨rfl, rfl⟩
theorem rsh_15 (w : World) : Calls Tryd.prog 12 #[.string ⟨#[110, 101, 116]⟩] w fun e w' => e = .returned (.tuple #[.string ⟨#[]⟩, .bool true]) ∧ w = w' := by
  go_enter Tryd.func12, Tryd.ntmps12
  go_wp2
  go_returns
  exact ⟨rfl, rfl⟩
theorem rsh_16 (w : World) : Calls Tryd.prog 12 #[.string ⟨#[105, 110, 102, 101, 114]⟩] w fun e w' => e = .returned (.tuple #[.string ⟨#[]⟩, .bool true]) ∧ w = w' := by
  go_enter Tryd.func12, Tryd.ntmps12
  go_wp2
  go_returns
  exact ⟨rfl, rfl⟩
theorem rsh_17 (w : World) : Calls Tryd.prog 12 #[.string ⟨#[114, 101, 115, 101, 116]⟩] w fun e w' => e = .returned (.tuple #[.string ⟨#[]⟩, .bool true]) ∧ w = w' := by
  go_enter Tryd.func12, Tryd.ntmps12
  go_wp2
  go_returns
  exact ⟨rfl, rfl⟩
set_option maxHeartbeats 1000000 in
theorem rsh_none (s : ByteArray) (w : World) (h0 : (s.toList == [100, 101, 102, 105, 110, 101]) = false) (h1 : (s.toList == [100, 114, 111, 112]) = false) (h2 : (s.toList == [115, 104, 111, 119]) = false) (h3 : (s.toList == [102, 111, 114, 109]) = false) (h4 : (s.toList == [118, 97, 114]) = false) (h5 : (s.toList == [101, 120, 116, 101, 110, 116]) = false) (h6 : (s.toList == [103, 114, 97, 110, 117, 108, 101]) = false) (h7 : (s.toList == [110, 101, 120, 116]) = false) (h8 : (s.toList == [112, 114, 101, 118]) = false) (h9 : (s.toList == [115, 112, 97, 110]) = false) (h10 : (s.toList == [114, 101, 108]) = false) (h11 : (s.toList == [99, 111, 118, 101, 114]) = false) (h12 : (s.toList == [98, 111, 117, 110, 100]) = false) (h13 : (s.toList == [100, 97, 116, 101]) = false) (h14 : (s.toList == [115, 111, 108, 118, 101]) = false) (h15 : (s.toList == [110, 101, 116]) = false) (h16 : (s.toList == [105, 110, 102, 101, 114]) = false) (h17 : (s.toList == [114, 101, 115, 101, 116]) = false) : Calls Tryd.prog 12 #[.string s] w fun e w' => e = .returned (.tuple #[.string ⟨#[]⟩, .bool false]) ∧ w = w' := by
  go_enter Tryd.func12, Tryd.ntmps12
  go_wp2
  go_returns
  exact ⟨rfl, rfl⟩
theorem rshape_any (s : ByteArray) (w : World) : Calls Tryd.prog 12 #[.string s] w fun e w' => e = .returned (shV (Lx.shape s.data.toList)) ∧ w = w' := by
  obtain ⟨l, hl⟩ : ∃ l, s.data.toList = l := ⟨_, rfl⟩
  by_cases h0 : l = [100, 101, 102, 105, 110, 101]
  · subst h0
    rw [hl, str_of s _ hl]; exact rsh_0 w
  · by_cases h1 : l = [100, 114, 111, 112]
    · subst h1
      rw [hl, str_of s _ hl]; exact rsh_1 w
    · by_cases h2 : l = [115, 104, 111, 119]
      · subst h2
        rw [hl, str_of s _ hl]; exact rsh_2 w
      · by_cases h3 : l = [102, 111, 114, 109]
        · subst h3
          rw [hl, str_of s _ hl]; exact rsh_3 w
        · by_cases h4 : l = [118, 97, 114]
          · subst h4
            rw [hl, str_of s _ hl]; exact rsh_4 w
          · by_cases h5 : l = [101, 120, 116, 101, 110, 116]
            · subst h5
              rw [hl, str_of s _ hl]; exact rsh_5 w
            · by_cases h6 : l = [103, 114, 97, 110, 117, 108, 101]
              · subst h6
                rw [hl, str_of s _ hl]; exact rsh_6 w
              · by_cases h7 : l = [110, 101, 120, 116]
                · subst h7
                  rw [hl, str_of s _ hl]; exact rsh_7 w
                · by_cases h8 : l = [112, 114, 101, 118]
                  · subst h8
                    rw [hl, str_of s _ hl]; exact rsh_8 w
                  · by_cases h9 : l = [115, 112, 97, 110]
                    · subst h9
                      rw [hl, str_of s _ hl]; exact rsh_9 w
                    · by_cases h10 : l = [114, 101, 108]
                      · subst h10
                        rw [hl, str_of s _ hl]; exact rsh_10 w
                      · by_cases h11 : l = [99, 111, 118, 101, 114]
                        · subst h11
                          rw [hl, str_of s _ hl]; exact rsh_11 w
                        · by_cases h12 : l = [98, 111, 117, 110, 100]
                          · subst h12
                            rw [hl, str_of s _ hl]; exact rsh_12 w
                          · by_cases h13 : l = [100, 97, 116, 101]
                            · subst h13
                              rw [hl, str_of s _ hl]; exact rsh_13 w
                            · by_cases h14 : l = [115, 111, 108, 118, 101]
                              · subst h14
                                rw [hl, str_of s _ hl]; exact rsh_14 w
                              · by_cases h15 : l = [110, 101, 116]
                                · subst h15
                                  rw [hl, str_of s _ hl]; exact rsh_15 w
                                · by_cases h16 : l = [105, 110, 102, 101, 114]
                                  · subst h16
                                    rw [hl, str_of s _ hl]; exact rsh_16 w
                                  · by_cases h17 : l = [114, 101, 115, 101, 116]
                                    · subst h17
                                      rw [hl, str_of s _ hl]; exact rsh_17 w
                                    · have e : Lx.shape l = none := by unfold Lx.shape Lx.shapes; simp only [Lx.shGo, h0, h1, h2, h3, h4, h5, h6, h7, h8, h9, h10, h11, h12, h13, h14, h15, h16, h17, if_false]
                                      rw [hl, e]
                                      exact rsh_none s w (ne_of s _ (by rw [hl]; exact h0)) (ne_of s _ (by rw [hl]; exact h1)) (ne_of s _ (by rw [hl]; exact h2)) (ne_of s _ (by rw [hl]; exact h3)) (ne_of s _ (by rw [hl]; exact h4)) (ne_of s _ (by rw [hl]; exact h5)) (ne_of s _ (by rw [hl]; exact h6)) (ne_of s _ (by rw [hl]; exact h7)) (ne_of s _ (by rw [hl]; exact h8)) (ne_of s _ (by rw [hl]; exact h9)) (ne_of s _ (by rw [hl]; exact h10)) (ne_of s _ (by rw [hl]; exact h11)) (ne_of s _ (by rw [hl]; exact h12)) (ne_of s _ (by rw [hl]; exact h13)) (ne_of s _ (by rw [hl]; exact h14)) (ne_of s _ (by rw [hl]; exact h15)) (ne_of s _ (by rw [hl]; exact h16)) (ne_of s _ (by rw [hl]; exact h17))

/-- Strings in memory, wherever they begin. -/
structure SAt (w : World) (ao : Option Addr) (n c : Nat) (l : List ByteArray) : Prop where
  len : l.length = n
  le : n ≤ c
  top : c ≤ 9223372036854775807
  here : 0 < n → ∃ b p, ao = some ⟨b, p, none⟩ ∧ ∀ i (h : i < l.length), w.cell? ⟨b, p + i, none⟩ = some (.string l[i])
theorem SAt.keep {w w' : World} {ao : Option Addr} {n c : Nat} {l : List ByteArray} (h : SAt w ao n c l) (k : Below w.heap.size w w') : SAt w' ao n c l :=
  ⟨h.len, h.le, h.top, fun h0 => by
    obtain ⟨b, p, e, hc⟩ := h.here h0
    exact ⟨b, p, e, fun i hi => cell_keep (hc i hi) k⟩⟩
theorem StAt.gen {w : World} {ao : Option Addr} {n c : Nat} {l : List ByteArray} (h : StAt w ao n c l) : SAt w ao n c l :=
  ⟨h.len, h.le, h.top, fun h0 => by
    obtain ⟨b, e, hc⟩ := h.here h0
    exact ⟨b, 0, e, fun i hi => by rw [Nat.zero_add]; exact hc i hi⟩⟩
/-- A command in memory, cell by cell. -/
structure Cg where
  wb : ByteArray
  an : Option Addr
  nl : Nat
  nc : Nat
  am : Option Addr
  ml : Nat
  mc : Nat
  lo : Int
  hi : Int
  hl : Bool
  hh : Bool
  z : Hv
def cgC (g : Cg) : Array Value := #[.string g.wb, .slice g.an g.nl g.nc, .slice g.am g.ml g.mc, .int .i64 g.lo, .int .i64 g.hi, .bool g.hl, .bool g.hh, .int .u8 g.z.p.op, .string g.z.p.nm, .slice g.z.an g.z.nn g.z.nc, .slice g.z.aa g.z.p.k g.z.ac]
structure CG (w : World) (D : Nat) (cm : Lx.Cm) (g : Cg) : Prop where
  wd : g.wb = ⟨cm.word.toArray⟩
  nn : SAt w g.an g.nl g.nc (cm.names.map (fun x => ⟨x.toArray⟩))
  mm : NAt w g.am g.ml g.mc cm.nums
  rg : cm.rg = ⟨g.lo, g.hi, g.hl, g.hh⟩
  ex : ExAt w D (hV g.z) (tour cm.ex)
theorem CG.keep {w w' : World} {D : Nat} {cm : Lx.Cm} {g : Cg} (h : CG w D cm g) (k : Below w.heap.size w w') : CG w' D cm g := ⟨h.wd, h.nn.keep k, h.mm.keep k, h.rg, h.ex.keep k⟩
theorem tour_eq (x y : Lx.Ex) : tour x = tour y ↔ x = y := ⟨fun h => (tour_inj x y 0 [] [] (by rw [h])).1, fun h => by rw [h]⟩
theorem cm_eq (a b : Lx.Cm) : a = b ↔ a.word = b.word ∧ a.names = b.names ∧ a.nums = b.nums ∧ a.rg = b.rg ∧ a.ex = b.ex := by
  constructor
  · rintro rfl; exact ⟨rfl, rfl, rfl, rfl, rfl⟩
  · rintro ⟨h1, h2, h3, h4, h5⟩
    cases a; cases b; simp_all
theorem word_eq (a b : List UInt8) : (⟨a.toArray⟩ : ByteArray).toList = (⟨b.toArray⟩ : ByteArray).toList ↔ a = b := by
  rw [ByteArray.toList_eq, ByteArray.toList_eq]
structure Bx3 (w0 w : World) (b : Nat) (cs ds : Array Value) : Prop where
  bw : Below w0.heap.size w0 w
  b1 : w.heap[b]? = some (.cells cs 39 (0, 0))
  b2 : w.heap[b + 1]? = some (.cells ds 39 (0, 0))
theorem Bx3.keep {w0 w w' : World} {b : Nat} {cs ds : Array Value} (h : Bx3 w0 w b cs ds) (q : Below w.heap.size w w') : Bx3 w0 w' b cs ds :=
  ⟨h.bw.trans (q.mono h.bw.size), blk_below h.b1 q, blk_below h.b2 q⟩
set_option maxRecDepth 20000 in
set_option maxHeartbeats 4000000 in
theorem csame_any (w : World) (D D' : Nat) (cm cn : Lx.Cm) (g h : Cg) (hg : CG w D cm g) (hh : CG w D' cn h) (r : Bool) (hr : r = true ↔ cm = cn) :
    Calls Tryd.prog 18 #[.agg (cgC g), .agg (cgC h)] w fun e w' => e = .returned (.bool r) ∧ Below w.heap.size w w' := by
  have HR := Lib.hid (hr.trans (cm_eq cm cn))
  obtain ⟨rx, hrx⟩ : ∃ rx : Bool, rx = true ↔ tour cm.ex = tour cn.ex := by classical exact ⟨decide _, decide_eq_true_iff⟩
  have HS := Lib.hid (fun W (k : Below w.heap.size w W) => rsame_any D (hV g.z) (tour cm.ex) D' (hV h.z) (tour cn.ex) W (hg.ex.keep k) (hh.ex.keep k) rx hrx)
  have HRX := Lib.hid (hrx.trans (tour_eq cm.ex cn.ex))
  have HG := Lib.hid hg
  have HH := Lib.hid hh
  obtain ⟨wb, an, nl, nc, am, ml, mc, lo, hi, gl, gh, z⟩ := g
  obtain ⟨wb', an', nl', nc', am', ml', mc', lo', hi', gl', gh', z'⟩ := h
  unfold hV pv at HS
  unfold cgC
  dsimp only at HS ⊢
  obtain ⟨b, hb⟩ : ∃ z, w.heap.size = z := ⟨_, rfl⟩
  obtain ⟨w1, hw1⟩ : ∃ y, (w.alloc (.cells (cgC ⟨wb, an, nl, nc, am, ml, mc, lo, hi, gl, gh, z⟩) 39)).alloc (.cells (cgC ⟨wb', an', nl', nc', am', ml', mc', lo', hi', gl', gh', z'⟩) 39) = y := ⟨_, rfl⟩
  have HB : Hid (Bx3 w w1 b (cgC ⟨wb, an, nl, nc, am, ml, mc, lo, hi, gl, gh, z⟩) (cgC ⟨wb', an', nl', nc', am', ml', mc', lo', hi', gl', gh', z'⟩)) := Lib.hid ⟨by rw [← hw1]; exact ((Below.refl _ w).alloc (Nat.le_refl _) _).alloc (by simp) _, by rw [← hw1, ← hb, al_old _ _ (by simp), al_new], by
    rw [← hw1, ← hb]
    have := al_new (w.alloc (.cells (cgC ⟨wb, an, nl, nc, am, ml, mc, lo, hi, gl, gh, z⟩) 39)) (.cells (cgC ⟨wb', an', nl', nc', am', ml', mc', lo', hi', gl', gh', z'⟩) 39)
    simpa using this⟩
  unfold cgC at hw1 HB
  dsimp only at hw1 HB
  clear hg hh hr hrx
  have e0 := cell_blk HB.out.b1 0
  have f0 := cell_blk HB.out.b2 0
  have e1 := cell_blk HB.out.b1 1
  have f1 := cell_blk HB.out.b2 1
  have e2 := cell_blk HB.out.b1 2
  have f2 := cell_blk HB.out.b2 2
  have e3 := cell_blk HB.out.b1 3
  have f3 := cell_blk HB.out.b2 3
  have e4 := cell_blk HB.out.b1 4
  have f4 := cell_blk HB.out.b2 4
  have e5 := cell_blk HB.out.b1 5
  have f5 := cell_blk HB.out.b2 5
  have e6 := cell_blk HB.out.b1 6
  have f6 := cell_blk HB.out.b2 6
  have e7 := cell_blk HB.out.b1 7
  have f7 := cell_blk HB.out.b2 7
  have e8 := cell_blk HB.out.b1 8
  have f8 := cell_blk HB.out.b2 8
  have e9 := cell_blk HB.out.b1 9
  have f9 := cell_blk HB.out.b2 9
  have e10 := cell_blk HB.out.b1 10
  have f10 := cell_blk HB.out.b2 10

  go_enter Tryd.func18, Tryd.ntmps18
  by_cases q1 : wb.toList = wb'.toList
  · have HQ1 : Hid (cm.word = cn.word) := Lib.hid (by
      have a : wb = _ := HG.out.wd
      have b : wb' = _ := HH.out.wd
      rw [a, b, word_eq] at q1; exact q1)
    obtain rfl : wb = wb' := (nm_inj _ _).1 q1
    clear q1
    by_cases a1 : lo = lo'
    · subst a1
      by_cases a1 : hi = hi'
      · subst a1
        by_cases a1 : gl = gl'
        · subst a1
          by_cases a1 : gh = gh'
          · subst a1
            have HQ2 : Hid (cm.rg = cn.rg) := Lib.hid (HG.out.rg.trans HH.out.rg.symm)
            have HNL : Hid (cm.names.length = nl) := Lib.hid (by have := HG.out.nn.len; simpa using this)
            have HNL' : Hid (cn.names.length = nl') := Lib.hid (by have := HH.out.nn.len; simpa using this)
            have HML : Hid (cm.nums.length = ml) := Lib.hid HG.out.mm.len
            have HML' : Hid (cn.nums.length = ml') := Lib.hid HH.out.mm.len
            by_cases a1 : nl = nl'
            · subst a1
              by_cases a1 : ml = ml'
              · subst a1
                have HSC := Lib.hid (HS.out w1 HB.out.bw)
                clear HS
                go_wp2_with fail
                (with_reducible refine HSC.out.mono ?_)
                rintro e w2 ⟨rfl, q⟩
                have HB := Lib.hid (HB.out.keep q)
                clear q HSC e0 f0 e1 f1 e2 f2 e3 f3 e4 f4 e5 f5 e6 f6 e7 f7 e8 f8 e9 f9 e10 f10 hw1 hb
                have e0 := cell_blk HB.out.b1 0
                have f0 := cell_blk HB.out.b2 0
                have e1 := cell_blk HB.out.b1 1
                have f1 := cell_blk HB.out.b2 1
                have e2 := cell_blk HB.out.b1 2
                have f2 := cell_blk HB.out.b2 2
                have e3 := cell_blk HB.out.b1 3
                have f3 := cell_blk HB.out.b2 3
                have e4 := cell_blk HB.out.b1 4
                have f4 := cell_blk HB.out.b2 4
                have e5 := cell_blk HB.out.b1 5
                have f5 := cell_blk HB.out.b2 5
                have e6 := cell_blk HB.out.b1 6
                have f6 := cell_blk HB.out.b2 6
                have e7 := cell_blk HB.out.b1 7
                have f7 := cell_blk HB.out.b2 7
                have e8 := cell_blk HB.out.b1 8
                have f8 := cell_blk HB.out.b2 8
                have e9 := cell_blk HB.out.b1 9
                have f9 := cell_blk HB.out.b2 9
                have e10 := cell_blk HB.out.b1 10
                have f10 := cell_blk HB.out.b2 10
                cases rx
                · obtain rfl : r = false := by
                    cases r
                    · rfl
                    · exact absurd (HRX.out.2 (HR.out.1 rfl).2.2.2.2) (by decide)
                  go_wp2_with fail
                  go_returns
                  exact ⟨rfl, HB.out.bw⟩
                · have HQ5 := Lib.hid (HRX.out.1 rfl)
                  clear e0 f0 e1 f1 e2 f2 e3 f3 e4 f4 e5 f5 e6 f6 e7 f7 e8 f8 e9 f9 e10 f10
                  go_upto_region 4 with fail
                  go_loopw [5] (fun ii wr => ∃ j : Nat, j ≤ nl ∧ ii = .int .i64 j ∧ Hid (Bx3 w wr b #[.string wb, .slice an nl nc, .slice am ml mc, .int .i64 lo, .int .i64 hi, .bool gl, .bool gh, .int .u8 z.p.op, .string z.p.nm, .slice z.an z.nn z.nc, .slice z.aa z.p.k z.ac] #[.string wb, .slice an' nl nc', .slice am' ml mc', .int .i64 lo, .int .i64 hi, .bool gl, .bool gh, .int .u8 z'.p.op, .string z'.p.nm, .slice z'.an z'.nn z'.nc, .slice z'.aa z'.p.k z'.ac]) ∧ Hid (cm.names.take j = cn.names.take j)) (fun ii _ => nl - (intOf ii).toNat)
                  case atStart => exact ⟨0, Nat.zero_le _, rfl, HB, Lib.hid rfl⟩
                  case round =>
                    clear HB
                    obtain ⟨j, hj, rfl, HB, HE⟩ := hrel
                    have e1 := cell_blk HB.out.b1 1
                    have f1 := cell_blk HB.out.b2 1
                    have e2 := cell_blk HB.out.b1 2
                    have f2 := cell_blk HB.out.b2 2
                    have j0 : (0 : Int) ≤ (j : Int) := by omega
                    have n9 : (nl : Int) ≤ 9223372036854775807 := by have a := HG.out.nn.le; have b := HG.out.nn.top; dsimp only at a b; omega
                    by_cases jlt : j < nl
                    · have j1 : (j : Int) < (nl : Int) := by omega
                      obtain ⟨nb, np, ha, hc⟩ := HG.out.nn.here (by dsimp only; omega)
                      obtain ⟨mb, mp, ha', hc'⟩ := HH.out.nn.here (by dsimp only; omega)
                      have hjn : j < cm.names.length := by have := HNL.out; omega
                      have hjm : j < cn.names.length := by have := HNL'.out; omega
                      dsimp only at ha ha'
                      obtain ⟨sx, hsx, c1⟩ : ∃ s : ByteArray, s = ⟨(cm.names[j]).toArray⟩ ∧ wr.cell? ⟨nb, np + j, none⟩ = some (.string s) := ⟨_, rfl, by have := cell_keep (hc j (by simpa using hjn)) HB.out.bw; simpa using this⟩
                      obtain ⟨sy, hsy, d1⟩ : ∃ s : ByteArray, s = ⟨(cn.names[j]).toArray⟩ ∧ wr.cell? ⟨mb, mp + j, none⟩ = some (.string s) := ⟨_, rfl, by have := cell_keep (hc' j (by simpa using hjm)) HB.out.bw; simpa using this⟩
                      have HX : Hid (sx = sy ↔ cm.names[j] = cn.names[j]) := Lib.hid (by rw [← nm_inj, hsx, hsy, word_eq])
                      clear hsx hsy
                      clear hc hc'
                      subst ha
                      subst ha'
                      by_cases sq : sx = sy
                      · obtain rfl := sq
                        have HE2 : Hid (cm.names.take (j + 1) = cn.names.take (j + 1)) := Lib.hid (by rw [List.take_succ_eq_append_getElem hjn, List.take_succ_eq_append_getElem hjm, HE.out, HX.out.1 rfl])
                        clear HX HE
                        go_upto_region 6 with fail
                        go_quiet (fail)
                        go_wp2_with fail
                        go_roundw
                        case rel => exact ⟨j + 1, by omega, by go_num, Lib.hid (HB.out.keep (below_drewN (Below.refl _ wr) nq)), HE2⟩
                        case measure => simp [intOf]; omega
                      · have sq2 : (sx.toList == sy.toList) = false := by simpa using fun e => sq ((nm_inj _ _).1 e)
                        obtain rfl : r = false := by
                          cases r
                          · rfl
                          · exact absurd (HX.out.2 (by have e := (HR.out.1 rfl).2.1; simp only [e])) sq
                        clear sq HX HE
                        go_upto_region 6 with fail
                        go_quiet (fail)
                        go_wp2_with fail
                        go_returns
                        exact ⟨rfl, below_drewN HB.out.bw nq⟩
                    · obtain rfl : nl = j := by omega
                      have HF : Hid (cm.names = cn.names) := Lib.hid (by
                        have a := HE.out
                        rw [List.take_of_length_le (by have := HNL.out; omega), List.take_of_length_le (by have := HNL'.out; omega)] at a
                        exact a)
                      clear jlt hj HE
                      have HN := HF
                      clear HF
                      go_upto_region 9 with fail
                      go_loopw [6] (fun ii wr => ∃ j : Nat, j ≤ ml ∧ ii = .int .i64 j ∧ Hid (Bx3 w wr b #[.string wb, .slice an nl nc, .slice am ml mc, .int .i64 lo, .int .i64 hi, .bool gl, .bool gh, .int .u8 z.p.op, .string z.p.nm, .slice z.an z.nn z.nc, .slice z.aa z.p.k z.ac] #[.string wb, .slice an' nl nc', .slice am' ml mc', .int .i64 lo, .int .i64 hi, .bool gl, .bool gh, .int .u8 z'.p.op, .string z'.p.nm, .slice z'.an z'.nn z'.nc, .slice z'.aa z'.p.k z'.ac]) ∧ Hid (cm.nums.take j = cn.nums.take j)) (fun ii _ => ml - (intOf ii).toNat)
                      case atStart => exact ⟨0, Nat.zero_le _, rfl, HB, Lib.hid rfl⟩
                      case round =>
                        clear HB
                        obtain ⟨j, hj, rfl, HB, HE⟩ := hrel
                        have e1 := cell_blk HB.out.b1 1
                        have f1 := cell_blk HB.out.b2 1
                        have e2 := cell_blk HB.out.b1 2
                        have f2 := cell_blk HB.out.b2 2
                        have j0 : (0 : Int) ≤ (j : Int) := by omega
                        have n9 : (ml : Int) ≤ 9223372036854775807 := by have a := HG.out.mm.le; have b := HG.out.mm.top; dsimp only at a b; omega
                        by_cases jlt : j < ml
                        · have j1 : (j : Int) < (ml : Int) := by omega
                          obtain ⟨nb, np, ha, hc⟩ := HG.out.mm.here (by dsimp only; omega)
                          obtain ⟨mb, mp, ha', hc'⟩ := HH.out.mm.here (by dsimp only; omega)
                          have hjn : j < cm.nums.length := by have := HML.out; omega
                          have hjm : j < cn.nums.length := by have := HML'.out; omega
                          dsimp only at ha ha'
                          obtain ⟨sx, hsx, c1⟩ : ∃ s : Int, s = cm.nums[j] ∧ wr.cell? ⟨nb, np + j, none⟩ = some (.int .i64 s) := ⟨_, rfl, cell_keep (hc j hjn).1 HB.out.bw⟩
                          obtain ⟨sy, hsy, d1⟩ : ∃ s : Int, s = cn.nums[j] ∧ wr.cell? ⟨mb, mp + j, none⟩ = some (.int .i64 s) := ⟨_, rfl, cell_keep (hc' j hjm).1 HB.out.bw⟩
                          have HX : Hid (sx = sy ↔ cm.nums[j] = cn.nums[j]) := Lib.hid (by rw [hsx, hsy])
                          clear hsx hsy
                          clear hc hc'
                          subst ha
                          subst ha'
                          by_cases sq : sx = sy
                          · obtain rfl := sq
                            have HE2 : Hid (cm.nums.take (j + 1) = cn.nums.take (j + 1)) := Lib.hid (by rw [List.take_succ_eq_append_getElem hjn, List.take_succ_eq_append_getElem hjm, HE.out, HX.out.1 rfl])
                            clear HX HE
                            go_upto_region 11 with fail
                            go_quiet (fail)
                            go_wp2_with fail
                            go_roundw
                            case rel => exact ⟨j + 1, by omega, by go_num, Lib.hid (HB.out.keep (below_drewN (Below.refl _ wr) nq)), HE2⟩
                            case measure => simp [intOf]; omega
                          · have sq2 : (sx == sy) = false := by simpa using sq
                            obtain rfl : r = false := by
                              cases r
                              · rfl
                              · exact absurd (HX.out.2 (by have e := (HR.out.1 rfl).2.2.1; simp only [e])) sq
                            clear sq HX HE
                            go_upto_region 11 with fail
                            go_quiet (fail)
                            go_wp2_with fail
                            go_returns
                            exact ⟨rfl, below_drewN HB.out.bw nq⟩
                        · obtain rfl : ml = j := by omega
                          have HF : Hid (cm.nums = cn.nums) := Lib.hid (by
                            have a := HE.out
                            rw [List.take_of_length_le (by have := HML.out; omega), List.take_of_length_le (by have := HML'.out; omega)] at a
                            exact a)
                          clear jlt hj HE
                          obtain rfl : r = true := HR.out.2 ⟨HQ1.out, HN.out, HF.out, HQ2.out, HQ5.out⟩
                          go_wp2_with fail
                          go_returns
                          exact ⟨rfl, HB.out.bw⟩
              · have c1 : ((ml : Int) != (ml' : Int)) = true := by rw [bne_iff_ne]; omega
                obtain rfl : r = false := by
                  cases r
                  · rfl
                  · exact absurd (by rw [← HML.out, ← HML'.out, (HR.out.1 rfl).2.2.1]) a1
                go_wp2_with fail
                go_returns
                exact ⟨rfl, HB.out.bw⟩
            · have c1 : ((nl : Int) != (nl' : Int)) = true := by rw [bne_iff_ne]; omega
              obtain rfl : r = false := by
                cases r
                · rfl
                · exact absurd (by rw [← HNL.out, ← HNL'.out, (HR.out.1 rfl).2.1]) a1
              go_wp2_with fail
              go_returns
              exact ⟨rfl, HB.out.bw⟩
          · have c1 : (gh == gh') = false := by simpa using a1
            obtain rfl : r = false := by
              cases r
              · rfl
              · have a := HG.out.rg; have b := HH.out.rg; rw [(HR.out.1 rfl).2.2.2.1, b] at a; exact absurd (congrArg Lx.Rg.hh a).symm a1
            go_wp2_with fail
            go_returns
            exact ⟨rfl, HB.out.bw⟩
        · have c1 : (gl == gl') = false := by simpa using a1
          obtain rfl : r = false := by
            cases r
            · rfl
            · have a := HG.out.rg; have b := HH.out.rg; rw [(HR.out.1 rfl).2.2.2.1, b] at a; exact absurd (congrArg Lx.Rg.hl a).symm a1
          go_wp2_with fail
          go_returns
          exact ⟨rfl, HB.out.bw⟩
      · have c1 : (hi == hi') = false := by simpa using a1
        obtain rfl : r = false := by
          cases r
          · rfl
          · have a := HG.out.rg; have b := HH.out.rg; rw [(HR.out.1 rfl).2.2.2.1, b] at a; exact absurd (congrArg Lx.Rg.high a).symm a1
        go_wp2_with fail
        go_returns
        exact ⟨rfl, HB.out.bw⟩
    · have c1 : (lo == lo') = false := by simpa using a1
      obtain rfl : r = false := by
        cases r
        · rfl
        · have a := HG.out.rg; have b := HH.out.rg; rw [(HR.out.1 rfl).2.2.2.1, b] at a; exact absurd (congrArg Lx.Rg.low a).symm a1
      go_wp2_with fail
      go_returns
      exact ⟨rfl, HB.out.bw⟩
  · have q1b : (wb.toList == wb'.toList) = false := by simpa using q1
    obtain rfl : r = false := by
      cases r
      · rfl
      · refine absurd ?_ q1
        have a : wb = _ := HG.out.wd
        have b : wb' = _ := HH.out.wd
        rw [a, b, word_eq]; exact (HR.out.1 rfl).1
    go_wp2_with fail
    go_returns
    exact ⟨rfl, HB.out.bw⟩

structure Bc (w0 w : World) (b : Nat) (cs : Array Value) : Prop where
  bw : Below w0.heap.size w0 w
  box : w.heap[b]? = some (.cells cs 39 (0, 0))
theorem Bc.keep {w0 w w' : World} {b : Nat} {cs : Array Value} (h : Bc w0 w b cs) (q : Below w.heap.size w w') : Bc w0 w' b cs := ⟨h.bw.trans (q.mono h.bw.size), blk_below h.box q⟩
theorem Bc.lt {w0 w : World} {b : Nat} {cs : Array Value} (h : Bc w0 w b cs) : b + 1 ≤ w.heap.size := (Array.getElem?_eq_some_iff.1 h.box).1
theorem Bc.grown {w0 w w' : World} {b : Nat} {cs : Array Value} (h : Bc w0 w b cs) (hb : w0.heap.size ≤ b) {row : Option Nat} (g : w.grownBy w' row) (hr : ∀ k, row = some k → b + 1 ≤ k) : Bc w0 w' b cs :=
  ⟨below_grown h.bw g (fun q e => by have := hr q e; omega) h.bw.size, (g.block b h.lt (by intro e; have := hr b e.symm; omega)).trans h.box⟩
set_option maxRecDepth 20000 in
set_option maxHeartbeats 4000000 in
theorem told_any (w : World) (D : Nat) (cm : Lx.Cm) (g : Cg) (hg : CG w D cm g) (sh : List UInt8) (hsh : Lx.shape cm.word = some sh) (hn : cm.names.length = Lx.cN sh) (hm : cm.nums.length = Lx.cI sh) (hx : 101 ∈ sh → Lx.Ok 40 cm.ex ∧ Lx.cnt cm.ex ≤ 2000) :
    Calls Tryd.prog 23 #[.agg (cgC g)] w fun e w' => ∃ ao c, e = .returned (.slice ao (Lx.toldC cm sh).length c) ∧ Hid (Below w.heap.size w w') ∧ Hid (TkAt w' ao (Lx.toldC cm sh).length c (Lx.toldC cm sh)) := by
  have HG := Lib.hid hg
  obtain ⟨sl, hlet⟩ := Lx.shape_let (Lx.shape_in hsh)
  have HLET := Lib.hid hlet
  have HNN := Lib.hid hn
  have HMM := Lib.hid hm
  have HOK := Lib.hid hx
  have HW9 : Hid (101 ∈ sh → (Lx.wordsX cm.ex).length ≤ 19999) := Lib.hid (fun q => by have a := words_len 40 cm.ex (hx q).1; have b := (hx q).2; omega)
  have HPL : Hid (∀ j, (Lx.shW cm (sh.take j) 0 0).length ≤ 79996) := Lib.hid (fun j => by
    have a := Lx.shW_len cm (sh.take j) 0 0 (fun q => HW9.out (List.mem_of_mem_take q))
    have b : (sh.take j).length ≤ 4 := by rw [List.length_take]; omega
    omega)
  have HSS : Hid ((⟨sh.toArray⟩ : ByteArray).size = sh.length) := Lib.hid (by rw [Lib.size_eq])
  have HSL : Hid (sh.length ≤ 4) := Lib.hid sl
  have HSH : Hid (Lx.shape g.wb.data.toList = some sh) := Lib.hid (by rw [hg.wd]; simpa using hsh)
  obtain ⟨wb, an, nl, nc, am, ml, mc, lo, hi, gl, gh, z⟩ := g
  have HWD : Hid (wb = ⟨cm.word.toArray⟩) := Lib.hid hg.wd
  have HRG : Hid (cm.rg = ⟨lo, hi, gl, gh⟩) := Lib.hid hg.rg
  have HWB : Hid (∀ W, Calls Tryd.prog 12 #[.string wb] W fun e w' => e = .returned (.tuple #[.string ⟨sh.toArray⟩, .bool true]) ∧ W = w') := Lib.hid (fun W => by
    have := rshape_any wb W
    have e := HSH.out
    dsimp only at e
    rw [e] at this; exact this)
  obtain ⟨sb, hsb⟩ : ∃ sb : ByteArray, ⟨sh.toArray⟩ = sb := ⟨_, rfl⟩
  have HSG : Hid (∀ j (h : j < sb.size) (h' : j < sh.length), sb[j]'h = sh[j]'h') := Lib.hid (by subst hsb; intro j h h'; rfl)
  rw [hsb] at HSS HWB
  clear hsb
  unfold cgC
  dsimp only
  obtain ⟨b, hb⟩ : ∃ z, w.heap.size = z := ⟨_, rfl⟩
  have HB0 : Hid (w.heap.size ≤ b) := Lib.hid (by omega)
  obtain ⟨w1, hw1⟩ : ∃ y, w.alloc (.cells #[.string wb, .slice an nl nc, .slice am ml mc, .int .i64 lo, .int .i64 hi, .bool gl, .bool gh, .int .u8 z.p.op, .string z.p.nm, .slice z.an z.nn z.nc, .slice z.aa z.p.k z.ac] 39) = y := ⟨_, rfl⟩
  have HX : Hid (Bc w w1 b #[.string wb, .slice an nl nc, .slice am ml mc, .int .i64 lo, .int .i64 hi, .bool gl, .bool gh, .int .u8 z.p.op, .string z.p.nm, .slice z.an z.nn z.nc, .slice z.aa z.p.k z.ac]) := Lib.hid ⟨by rw [← hw1]; exact (Below.refl _ w).alloc (Nat.le_refl _) _, by rw [← hw1, ← hb, al_new]⟩
  clear hg hsh hlet hn hm hx sl HSH
  have e0 := cell_blk HX.out.box 0
  have e1 := cell_blk HX.out.box 1
  have e2 := cell_blk HX.out.box 2
  have e3 := cell_blk HX.out.box 3
  have e4 := cell_blk HX.out.box 4
  have e5 := cell_blk HX.out.box 5
  have e6 := cell_blk HX.out.box 6
  have e7 := cell_blk HX.out.box 7
  have e8 := cell_blk HX.out.box 8
  have e9 := cell_blk HX.out.box 9
  have e10 := cell_blk HX.out.box 10
  go_enter Tryd.func23, Tryd.ntmps23
  go_upto_region 2 with fail
  have HO : Hid ((w1.alloc (.cells #[.int .u8 1, .string wb, .int .i64 0] 47)).ownsRow (b + 1) 47 3 (.slice (some ⟨w1.heap.size, 0, none⟩) 1 1) 1 (tkCells [(1, cm.word, 0)])) := Lib.hid (by
    have := World.ownsRow_lit (base := b + 1) (e := 47) (size := 3) w1 #[.int .u8 1, .string wb, .int .i64 0] 1 HX.out.lt (by decide) rfl
    rw [HWD.out] at this ⊢; exact this)
  obtain ⟨w2, hw2⟩ : ∃ y, w1.alloc (.cells #[.int .u8 1, .string wb, .int .i64 0] 47) = y := ⟨_, rfl⟩
  have HX2 : Hid (Bc w w2 b #[.string wb, .slice an nl nc, .slice am ml mc, .int .i64 lo, .int .i64 hi, .bool gl, .bool gh, .int .u8 z.p.op, .string z.p.nm, .slice z.an z.nn z.nc, .slice z.aa z.p.k z.ac]) := Lib.hid (by rw [← hw2]; exact HX.out.keep ((Below.refl _ w1).alloc (Nat.le_refl _) _))
  rw [hw2] at HO ⊢
  obtain ⟨g1, hg1⟩ : ∃ z, w1.heap.size = z := ⟨_, rfl⟩
  try rw [hg1]
  rw [hg1] at HO
  clear hw2 hg1 hw1 hb e0 e1 e2 e3 e4 e5 e6 e7 e8 e9 e10
  have HX := HX2
  have e0 := cell_blk HX.out.box 0
  have e1 := cell_blk HX.out.box 1
  have e2 := cell_blk HX.out.box 2
  have e3 := cell_blk HX.out.box 3
  have e4 := cell_blk HX.out.box 4
  have e5 := cell_blk HX.out.box 5
  have e6 := cell_blk HX.out.box 6
  have e7 := cell_blk HX.out.box 7
  have e8 := cell_blk HX.out.box 8
  have e9 := cell_blk HX.out.box 9
  have e10 := cell_blk HX.out.box 10
  go_wp2_with fail
  (with_reducible refine (HWB.out _).mono ?_)
  rintro e w3 ⟨rfl, rfl⟩
  go_upto_region 5 with fail
  have hs1 : (sh.length : Int) ≤ 4 := by have := HSL.out; omega
  go_loopw [3, 6, 7, 8] (fun s3 s6 s7 ii wr => ∃ j : Nat, j ≤ sh.length ∧ s6 = .int .i64 (Lx.cN (sh.take j) : Nat) ∧ s7 = .int .i64 (Lx.cI (sh.take j) : Nat) ∧ ii = .int .i64 j ∧ Hid (Bc w wr b #[.string wb, .slice an nl nc, .slice am ml mc, .int .i64 lo, .int .i64 hi, .bool gl, .bool gh, .int .u8 z.p.op, .string z.p.nm, .slice z.an z.nn z.nc, .slice z.aa z.p.k z.ac]) ∧ Hid (wr.ownsRow (b + 1) 47 3 s3 ((Lx.shW cm (sh.take j) 0 0).length + 1) (tkCells ((1, cm.word, 0) :: Lx.shW cm (sh.take j) 0 0)))) (fun _ _ _ ii _ => sh.length - (intOf ii).toNat)
  case atStart => exact ⟨0, Nat.zero_le _, rfl, rfl, rfl, HX, HO⟩
  case round =>
    clear HX HX2 HO
    obtain ⟨j, hj, rfl, rfl, rfl, HX, HO⟩ := hrel
    have HA2 : Hid (Lx.cN (sh.take j) ≤ 4) := Lib.hid (Nat.le_trans (Lx.cN_len _) (by rw [List.length_take]; have := HSL.out; omega))
    have HI2 : Hid (Lx.cI (sh.take j) ≤ 4) := Lib.hid (Nat.le_trans (Lx.cI_len _) (by rw [List.length_take]; have := HSL.out; omega))
    have HP := Lib.hid (HPL.out j)
    have j0 : (0 : Int) ≤ (j : Int) := by omega
    by_cases jlt : j < sh.length
    · have jb : j < sb.size := by rw [HSS.out]; exact jlt
      have j1 : (j : Int) < (sb.size : Int) := by omega
      have j2 : (j : Int) ≤ 4 := by omega
      have HST0 : Hid ((1, cm.word, 0) :: Lx.shW cm (sh.take (j + 1)) 0 0 = ((1, cm.word, 0) :: Lx.shW cm (sh.take j) 0 0) ++ Lx.letW cm sh[j] (Lx.cN (sh.take j)) (Lx.cI (sh.take j))) := Lib.hid (by rw [Lx.shW_step cm sh j jlt]; rfl)
      have HCN0 := Lib.hid (Lx.cN_step sh j jlt)
      have HCI0 := Lib.hid (Lx.cI_step sh j jlt)
      obtain ⟨A, hA⟩ : ∃ A, Lx.cN (sh.take j) = A := ⟨_, rfl⟩
      obtain ⟨I, hI⟩ : ∃ I, Lx.cI (sh.take j) = I := ⟨_, rfl⟩
      have HA := Lib.hid hA
      have HI := Lib.hid hI
      rw [hA] at HST0 HCN0 HA2
      rw [hI] at HST0 HCI0 HI2
      simp only [hA, hI]
      obtain ⟨P, hP⟩ : ∃ P, (1, cm.word, 0) :: Lx.shW cm (sh.take j) 0 0 = P := ⟨_, rfl⟩
      obtain ⟨L, hL⟩ : ∃ L, (Lx.shW cm (sh.take j) 0 0).length + 1 = L := ⟨_, rfl⟩
      have HLL : Hid (P.length = L) := Lib.hid (by rw [← hP, ← hL]; rfl)
      have HP : Hid (L ≤ 79997) := Lib.hid (by have := HP.out; omega)
      rw [hP] at HO HST0
      rw [hL] at HO
      have iA : (0 : Int) ≤ (A : Int) := by omega
      have iB : (A : Int) ≤ 4 := by have := HA2.out; omega
      have iC : (0 : Int) ≤ (I : Int) := by omega
      have iD : (I : Int) ≤ 4 := by have := HI2.out; omega
      clear hA hI hP hL
      have e0 := cell_blk HX.out.box 0
      have e1 := cell_blk HX.out.box 1
      have e2 := cell_blk HX.out.box 2
      have e3 := cell_blk HX.out.box 3
      have e4 := cell_blk HX.out.box 4
      have e5 := cell_blk HX.out.box 5
      have e6 := cell_blk HX.out.box 6
      have e7 := cell_blk HX.out.box 7
      have e8 := cell_blk HX.out.box 8
      have e9 := cell_blk HX.out.box 9
      have e10 := cell_blk HX.out.box 10
      rcases HLET.out _ (List.getElem_mem jlt) with hx | hx | hx | hx | hx
      · -- a name
        have hxx : ((sb[j]'jb).toNat : Int) = 110 := by rw [HSG.out j jb jlt, hx]; rfl
        have ha : A < cm.names.length := by have := Lx.cN_take sh j jlt hx; rw [HA.out] at this; have := HNN.out; omega
        have HST : Hid ((1, cm.word, 0) :: Lx.shW cm (sh.take (j + 1)) 0 0 = P ++ [(1, cm.names[A], 0)]) := Lib.hid (by
          rw [HST0.out, hx]
          have e : Lx.letW cm 110 A I = [(1, cm.names[A], 0)] := by
            show [((1, cm.names.getD A [], 0) : Lx.Tk)] = _
            rw [List.getD_eq_getElem?_getD, List.getElem?_eq_getElem ha]; rfl
          rw [e])
        have HCN : Hid (Lx.cN (sh.take (j + 1)) = A + 1) := Lib.hid (by rw [HCN0.out, hx]; rfl)
        have HCI : Hid (Lx.cI (sh.take (j + 1)) = I) := Lib.hid (by rw [HCI0.out, hx]; rfl)
        have HSN : Hid ((Lx.shW cm (sh.take (j + 1)) 0 0).length + 1 = L + 1) := Lib.hid (by have e := congrArg List.length HST.out; rw [List.length_cons, List.length_append, HLL.out] at e; exact e)
        obtain ⟨nb, np, han, hc⟩ := HG.out.nn.here (by have := HG.out.nn.len; rw [List.length_map] at this; dsimp only at this ⊢; omega)
        dsimp only at han
        have c1 := cell_keep (hc A (by simpa using ha)) HX.out.bw
        rw [List.getElem_map] at c1
        have HNL : Hid (A < nl) := Lib.hid (by have := HG.out.nn.len; rw [List.length_map] at this; dsimp only at this; omega)
        generalize cm.names[A] = nm at c1 HST
        have a0 : (0 : Int) ≤ (A : Int) := by omega
        have a1 : (A : Int) < (nl : Int) := by have := HNL.out; omega
        have a2 : (A : Int) ≤ 5 := by have := HA2.out; omega
        subst han
        clear hc ha HST0 HCN0 HCI0 hx HA
        clear e0 e1 e2 e3 e4 e5 e6 e7 e8 e9 e10
        have e0 := cell_blk HX.out.box 0
        have e1 := cell_blk HX.out.box 1
        have e2 := cell_blk HX.out.box 2
        have e3 := cell_blk HX.out.box 3
        have e4 := cell_blk HX.out.box 4
        have e5 := cell_blk HX.out.box 5
        have e6 := cell_blk HX.out.box 6
        have e7 := cell_blk HX.out.box 7
        have e8 := cell_blk HX.out.box 8
        have e9 := cell_blk HX.out.box 9
        have e10 := cell_blk HX.out.box 10
        go_upto_region 17 with (at_builtin; refine appQ rfl (.tmp 62) (.tmp 69) rfl (b + 1) _ _ (L) (P) rfl (HO.out.alloc _) (some ⟨wr.heap.size, 0, none⟩) 1 1 [(1, nm, 0)] rfl (tk_block [(1, nm, 0)] (al_new _ _) rfl rfl (by omega)) (by have := HP.out; omega) (Nat.le_trans HX.out.lt (by simp)) ?_; intro v5 w5 own gr; have HON := Lib.hid own; have HXN := Lib.hid ((HX.out.keep ((Below.refl _ wr).alloc (Nat.le_refl _) _)).grown HB0.out gr (fun q e => (HO.out.lt q e).1)); clear own gr)
        have HO := HON
        have HX := HXN
        clear HON HXN
        go_wp2_with fail
        go_roundw
        case rel => exact ⟨j + 1, by omega, by rw [HCN.out]; try go_num, by rw [HCI.out]; try go_num, by go_num, HX, Lib.hid (by have e := HO.out; rw [HST.out, HSN.out]; exact e)⟩
        case measure => simp [intOf]; omega
      · -- a number
        have hxx : ((sb[j]'jb).toNat : Int) = 105 := by rw [HSG.out j jb jlt, hx]; rfl
        have ha : I < cm.nums.length := by have := Lx.cI_take sh j jlt hx; rw [HI.out] at this; have := HMM.out; omega
        have HST : Hid ((1, cm.word, 0) :: Lx.shW cm (sh.take (j + 1)) 0 0 = P ++ [(2, [], cm.nums[I])]) := Lib.hid (by
          rw [HST0.out, hx]
          have e : Lx.letW cm 105 A I = [(2, [], cm.nums[I])] := by
            show [((2, [], cm.nums.getD I 0) : Lx.Tk)] = _
            rw [List.getD_eq_getElem?_getD, List.getElem?_eq_getElem ha]; rfl
          rw [e])
        have HCN : Hid (Lx.cN (sh.take (j + 1)) = A) := Lib.hid (by rw [HCN0.out, hx]; rfl)
        have HCI : Hid (Lx.cI (sh.take (j + 1)) = I + 1) := Lib.hid (by rw [HCI0.out, hx]; rfl)
        have HSN : Hid ((Lx.shW cm (sh.take (j + 1)) 0 0).length + 1 = L + 1) := Lib.hid (by have e := congrArg List.length HST.out; rw [List.length_cons, List.length_append, HLL.out] at e; exact e)
        obtain ⟨nb, np, han, hc⟩ := HG.out.mm.here (by have := HG.out.mm.len; dsimp only at this ⊢; omega)
        dsimp only at han
        have c1 := cell_keep (hc I ha).1 HX.out.bw
        have HNL : Hid (I < ml) := Lib.hid (by have := HG.out.mm.len; dsimp only at this; omega)
        generalize cm.nums[I] = nm at c1 HST
        have a0 : (0 : Int) ≤ (I : Int) := by omega
        have a1 : (I : Int) < (ml : Int) := by have := HNL.out; omega
        have a2 : (I : Int) ≤ 5 := by have := HI2.out; omega
        subst han
        clear hc ha HST0 HCN0 HCI0 hx HI
        clear e0 e1 e2 e3 e4 e5 e6 e7 e8 e9 e10
        have e0 := cell_blk HX.out.box 0
        have e1 := cell_blk HX.out.box 1
        have e2 := cell_blk HX.out.box 2
        have e3 := cell_blk HX.out.box 3
        have e4 := cell_blk HX.out.box 4
        have e5 := cell_blk HX.out.box 5
        have e6 := cell_blk HX.out.box 6
        have e7 := cell_blk HX.out.box 7
        have e8 := cell_blk HX.out.box 8
        have e9 := cell_blk HX.out.box 9
        have e10 := cell_blk HX.out.box 10
        go_upto_region 20 with (at_builtin; refine appQ rfl (.tmp 75) (.tmp 82) rfl (b + 1) _ _ (L) (P) rfl (HO.out.alloc _) (some ⟨wr.heap.size, 0, none⟩) 1 1 [(2, [], nm)] rfl (tk_block [(2, [], nm)] (al_new _ _) rfl rfl (by omega)) (by have := HP.out; omega) (Nat.le_trans HX.out.lt (by simp)) ?_; intro v5 w5 own gr; have HON := Lib.hid own; have HXN := Lib.hid ((HX.out.keep ((Below.refl _ wr).alloc (Nat.le_refl _) _)).grown HB0.out gr (fun q e => (HO.out.lt q e).1)); clear own gr)
        have HO := HON
        have HX := HXN
        clear HON HXN
        go_wp2_with fail
        go_roundw
        case rel => exact ⟨j + 1, by omega, by rw [HCN.out]; try go_num, by rw [HCI.out]; try go_num, by go_num, HX, Lib.hid (by have e := HO.out; rw [HST.out, HSN.out]; exact e)⟩
        case measure => simp [intOf]; omega
      · -- an expression
        have hxx : ((sb[j]'jb).toNat : Int) = 101 := by rw [HSG.out j jb jlt, hx]; rfl
        have hin : 101 ∈ sh := by rw [← hx]; exact List.getElem_mem jlt
        have HST : Hid ((1, cm.word, 0) :: Lx.shW cm (sh.take (j + 1)) 0 0 = P ++ Lx.wordsX cm.ex) := Lib.hid (by rw [HST0.out, hx]; rfl)
        have HCN : Hid (Lx.cN (sh.take (j + 1)) = A) := Lib.hid (by rw [HCN0.out, hx]; rfl)
        have HCI : Hid (Lx.cI (sh.take (j + 1)) = I) := Lib.hid (by rw [HCI0.out, hx]; rfl)
        have HWW := Lib.hid (words_any 40 cm.ex D (.agg #[.int .u8 z.p.op, .string z.p.nm, .slice z.an z.nn z.nc, .slice z.aa z.p.k z.ac]) wr (HG.out.ex.keep HX.out.bw) (HOK.out hin).1 (HOK.out hin).2)
        have HWL := Lib.hid (HW9.out hin)
        obtain ⟨lx, hlx⟩ : ∃ l, Lx.wordsX cm.ex = l := ⟨_, rfl⟩
        rw [hlx] at HWW HST HWL
        obtain ⟨M, hM⟩ : ∃ M, lx.length = M := ⟨_, rfl⟩
        have HSN : Hid ((Lx.shW cm (sh.take (j + 1)) 0 0).length + 1 = L + M) := Lib.hid (by have e := congrArg List.length HST.out; rw [List.length_cons, List.length_append, HLL.out, hM] at e; exact e)
        rw [hM] at HWW HWL
        clear HST0 HCN0 HCI0 hx hin hlx hM
        go_wp2_with fail
        (with_reducible refine HWW.out.mono ?_)
        rintro e w4 ⟨oa, oc, rfl, HB4, HT4⟩
        have HX := Lib.hid (HX.out.keep HB4.out)
        have HO := Lib.hid (keepB HO.out HB4.out)
        clear HWW e0 e1 e2 e3 e4 e5 e6 e7 e8 e9 e10
        go_upto_region 6 with (at_builtin; refine appQ rfl (.tmp 88) (.tmp 91) rfl (b + 1) _ _ L P rfl HO.out oa M oc lx rfl HT4.out (by have := HP.out; have := HWL.out; omega) HX.out.lt ?_; intro v5 w5 own gr; have HON := Lib.hid own; have HXN := Lib.hid (HX.out.grown HB0.out gr (fun q e => (HO.out.lt q e).1)); clear own gr)
        have HO := HON
        have HX := HXN
        clear HON HXN
        go_wp2_with fail
        go_roundw
        case rel => exact ⟨j + 1, by omega, by rw [HCN.out]; try go_num, by rw [HCI.out]; try go_num, by go_num, HX, Lib.hid (by have e := HO.out; rw [HST.out, HSN.out]; exact e)⟩
        case measure => simp [intOf]; omega
      · -- the mark =
        have hxx : ((sb[j]'jb).toNat : Int) = 61 := by rw [HSG.out j jb jlt, hx]; rfl
        have HST : Hid ((1, cm.word, 0) :: Lx.shW cm (sh.take (j + 1)) 0 0 = P ++ [(4, [61], 0)]) := Lib.hid (by rw [HST0.out, hx]; rfl)
        have HCN : Hid (Lx.cN (sh.take (j + 1)) = A) := Lib.hid (by rw [HCN0.out, hx]; rfl)
        have HCI : Hid (Lx.cI (sh.take (j + 1)) = I) := Lib.hid (by rw [HCI0.out, hx]; rfl)
        have HSN : Hid ((Lx.shW cm (sh.take (j + 1)) 0 0).length + 1 = L + 1) := Lib.hid (by have e := congrArg List.length HST.out; rw [List.length_cons, List.length_append, HLL.out] at e; exact e)
        clear HST0 HCN0 HCI0 hx
        go_wp2_with fail
        (with_reducible refine (rmark_any ⟨#[61]⟩ _).mono ?_)
        rintro e w4 ⟨rfl, q⟩
        have HX := Lib.hid (HX.out.keep q)
        have HO := Lib.hid (keepB HO.out q)
        clear q e0 e1 e2 e3 e4 e5 e6 e7 e8 e9 e10
        go_upto_region 6 with (at_builtin; refine appQ rfl (.tmp 95) (.tmp 97) rfl (b + 1) _ _ (L) (P) rfl (HO.out.alloc _) (some ⟨w4.heap.size, 0, none⟩) 1 1 [(4, [61], 0)] rfl (tk_block [(4, [61], 0)] (al_new _ _) rfl rfl (by omega)) (by have := HP.out; omega) (Nat.le_trans HX.out.lt (by simp)) ?_; intro v5 w5 own gr; have HON := Lib.hid own; have HXN := Lib.hid ((HX.out.keep ((Below.refl _ w4).alloc (Nat.le_refl _) _)).grown HB0.out gr (fun q e => (HO.out.lt q e).1)); clear own gr)
        have HO := HON
        have HX := HXN
        clear HON HXN
        have e0 := cell_blk HX.out.box 0
        have e1 := cell_blk HX.out.box 1
        have e2 := cell_blk HX.out.box 2
        have e3 := cell_blk HX.out.box 3
        have e4 := cell_blk HX.out.box 4
        have e5 := cell_blk HX.out.box 5
        have e6 := cell_blk HX.out.box 6
        have e7 := cell_blk HX.out.box 7
        have e8 := cell_blk HX.out.box 8
        have e9 := cell_blk HX.out.box 9
        have e10 := cell_blk HX.out.box 10
        go_wp2_with fail
        go_roundw
        case rel => exact ⟨j + 1, by omega, by rw [HCN.out]; try go_num, by rw [HCI.out]; try go_num, by go_num, HX, Lib.hid (by have e := HO.out; rw [HST.out, HSN.out]; exact e)⟩
        case measure => simp [intOf]; omega
      · -- a range
        have hxx : ((sb[j]'jb).toNat : Int) = 114 := by rw [HSG.out j jb jlt, hx]; rfl
        have HCN : Hid (Lx.cN (sh.take (j + 1)) = A) := Lib.hid (by rw [HCN0.out, hx]; rfl)
        have HCI : Hid (Lx.cI (sh.take (j + 1)) = I) := Lib.hid (by rw [HCI0.out, hx]; rfl)
        cases gl
        · cases gh
          · have HST : Hid ((1, cm.word, 0) :: Lx.shW cm (sh.take (j + 1)) 0 0 = P ++ [(4, [91], 0)] ++ [(4, [58], 0)] ++ [(4, [93], 0)]) := Lib.hid (by
              rw [HST0.out, hx]
              have e : Lx.letW cm 114 A I = Lx.rgW cm.rg := rfl
              rw [e, HRG.out]
              simp [Lx.rgW])
            have HSN : Hid ((Lx.shW cm (sh.take (j + 1)) 0 0).length + 1 = L + 1 + 1 + 1) := Lib.hid (by have e := congrArg List.length HST.out; simp only [List.length_cons, List.length_append, List.length_nil, HLL.out] at e; omega)
            clear HST0 HCN0 HCI0 hx
            go_wp2_with fail
            (with_reducible refine (rmark_any ⟨#[91]⟩ _).mono ?_)
            rintro e wm1 ⟨rfl, q⟩
            have HX := Lib.hid (HX.out.keep q)
            have HO := Lib.hid (keepB HO.out q)
            clear q e0 e1 e2 e3 e4 e5 e6 e7 e8 e9 e10
            go_upto_region 9 with (at_builtin; refine appQ rfl (.tmp 28) (.tmp 30) rfl (b + 1) _ _ (L) (P) rfl (HO.out.alloc _) (some ⟨wm1.heap.size, 0, none⟩) 1 1 [(4, [91], 0)] rfl (tk_block [(4, [91], 0)] (al_new _ _) rfl rfl (by omega)) (by have := HP.out; omega) (Nat.le_trans HX.out.lt (by simp)) ?_; intro v10 w10 own gr; have HON := Lib.hid own; have HXN := Lib.hid ((HX.out.keep ((Below.refl _ wm1).alloc (Nat.le_refl _) _)).grown HB0.out gr (fun q e => (HO.out.lt q e).1)); clear own gr)
            have HO := HON
            have HX := HXN
            clear HON HXN
            have e0 := cell_blk HX.out.box 0
            have e1 := cell_blk HX.out.box 1
            have e2 := cell_blk HX.out.box 2
            have e3 := cell_blk HX.out.box 3
            have e4 := cell_blk HX.out.box 4
            have e5 := cell_blk HX.out.box 5
            have e6 := cell_blk HX.out.box 6
            have e7 := cell_blk HX.out.box 7
            have e8 := cell_blk HX.out.box 8
            have e9 := cell_blk HX.out.box 9
            have e10 := cell_blk HX.out.box 10
            go_wp2_with fail
            (with_reducible refine (rmark_any ⟨#[58]⟩ _).mono ?_)
            rintro e wm2 ⟨rfl, q⟩
            have HX := Lib.hid (HX.out.keep q)
            have HO := Lib.hid (keepB HO.out q)
            clear q e0 e1 e2 e3 e4 e5 e6 e7 e8 e9 e10
            go_upto_region 12 with (at_builtin; refine appQ rfl (.tmp 42) (.tmp 44) rfl (b + 1) _ _ (L + 1) (P ++ [(4, [91], 0)]) rfl (HO.out.alloc _) (some ⟨wm2.heap.size, 0, none⟩) 1 1 [(4, [58], 0)] rfl (tk_block [(4, [58], 0)] (al_new _ _) rfl rfl (by omega)) (by have := HP.out; omega) (Nat.le_trans HX.out.lt (by simp)) ?_; intro v11 w11 own gr; have HON := Lib.hid own; have HXN := Lib.hid ((HX.out.keep ((Below.refl _ wm2).alloc (Nat.le_refl _) _)).grown HB0.out gr (fun q e => (HO.out.lt q e).1)); clear own gr)
            have HO := HON
            have HX := HXN
            clear HON HXN
            have e0 := cell_blk HX.out.box 0
            have e1 := cell_blk HX.out.box 1
            have e2 := cell_blk HX.out.box 2
            have e3 := cell_blk HX.out.box 3
            have e4 := cell_blk HX.out.box 4
            have e5 := cell_blk HX.out.box 5
            have e6 := cell_blk HX.out.box 6
            have e7 := cell_blk HX.out.box 7
            have e8 := cell_blk HX.out.box 8
            have e9 := cell_blk HX.out.box 9
            have e10 := cell_blk HX.out.box 10
            go_wp2_with fail
            (with_reducible refine (rmark_any ⟨#[93]⟩ _).mono ?_)
            rintro e wm3 ⟨rfl, q⟩
            have HX := Lib.hid (HX.out.keep q)
            have HO := Lib.hid (keepB HO.out q)
            clear q e0 e1 e2 e3 e4 e5 e6 e7 e8 e9 e10
            go_upto_region 6 with (at_builtin; refine appQ rfl (.tmp 56) (.tmp 58) rfl (b + 1) _ _ (L + 1 + 1) (P ++ [(4, [91], 0)] ++ [(4, [58], 0)]) rfl (HO.out.alloc _) (some ⟨wm3.heap.size, 0, none⟩) 1 1 [(4, [93], 0)] rfl (tk_block [(4, [93], 0)] (al_new _ _) rfl rfl (by omega)) (by have := HP.out; omega) (Nat.le_trans HX.out.lt (by simp)) ?_; intro v12 w12 own gr; have HON := Lib.hid own; have HXN := Lib.hid ((HX.out.keep ((Below.refl _ wm3).alloc (Nat.le_refl _) _)).grown HB0.out gr (fun q e => (HO.out.lt q e).1)); clear own gr)
            have HO := HON
            have HX := HXN
            clear HON HXN
            have e0 := cell_blk HX.out.box 0
            have e1 := cell_blk HX.out.box 1
            have e2 := cell_blk HX.out.box 2
            have e3 := cell_blk HX.out.box 3
            have e4 := cell_blk HX.out.box 4
            have e5 := cell_blk HX.out.box 5
            have e6 := cell_blk HX.out.box 6
            have e7 := cell_blk HX.out.box 7
            have e8 := cell_blk HX.out.box 8
            have e9 := cell_blk HX.out.box 9
            have e10 := cell_blk HX.out.box 10
            go_wp2_with fail
            go_roundw
            case rel => exact ⟨j + 1, by omega, by rw [HCN.out]; try go_num, by rw [HCI.out]; try go_num, by go_num, HX, Lib.hid (by have e := HO.out; rw [HST.out, HSN.out]; exact e)⟩
            case measure => simp [intOf]; omega
          · have HST : Hid ((1, cm.word, 0) :: Lx.shW cm (sh.take (j + 1)) 0 0 = P ++ [(4, [91], 0)] ++ [(4, [58], 0)] ++ [(2, [], hi)] ++ [(4, [93], 0)]) := Lib.hid (by
              rw [HST0.out, hx]
              have e : Lx.letW cm 114 A I = Lx.rgW cm.rg := rfl
              rw [e, HRG.out]
              simp [Lx.rgW])
            have HSN : Hid ((Lx.shW cm (sh.take (j + 1)) 0 0).length + 1 = L + 1 + 1 + 1 + 1) := Lib.hid (by have e := congrArg List.length HST.out; simp only [List.length_cons, List.length_append, List.length_nil, HLL.out] at e; omega)
            clear HST0 HCN0 HCI0 hx
            go_wp2_with fail
            (with_reducible refine (rmark_any ⟨#[91]⟩ _).mono ?_)
            rintro e wm1 ⟨rfl, q⟩
            have HX := Lib.hid (HX.out.keep q)
            have HO := Lib.hid (keepB HO.out q)
            clear q e0 e1 e2 e3 e4 e5 e6 e7 e8 e9 e10
            go_upto_region 9 with (at_builtin; refine appQ rfl (.tmp 28) (.tmp 30) rfl (b + 1) _ _ (L) (P) rfl (HO.out.alloc _) (some ⟨wm1.heap.size, 0, none⟩) 1 1 [(4, [91], 0)] rfl (tk_block [(4, [91], 0)] (al_new _ _) rfl rfl (by omega)) (by have := HP.out; omega) (Nat.le_trans HX.out.lt (by simp)) ?_; intro v10 w10 own gr; have HON := Lib.hid own; have HXN := Lib.hid ((HX.out.keep ((Below.refl _ wm1).alloc (Nat.le_refl _) _)).grown HB0.out gr (fun q e => (HO.out.lt q e).1)); clear own gr)
            have HO := HON
            have HX := HXN
            clear HON HXN
            have e0 := cell_blk HX.out.box 0
            have e1 := cell_blk HX.out.box 1
            have e2 := cell_blk HX.out.box 2
            have e3 := cell_blk HX.out.box 3
            have e4 := cell_blk HX.out.box 4
            have e5 := cell_blk HX.out.box 5
            have e6 := cell_blk HX.out.box 6
            have e7 := cell_blk HX.out.box 7
            have e8 := cell_blk HX.out.box 8
            have e9 := cell_blk HX.out.box 9
            have e10 := cell_blk HX.out.box 10
            go_wp2_with fail
            (with_reducible refine (rmark_any ⟨#[58]⟩ _).mono ?_)
            rintro e wm2 ⟨rfl, q⟩
            have HX := Lib.hid (HX.out.keep q)
            have HO := Lib.hid (keepB HO.out q)
            clear q e0 e1 e2 e3 e4 e5 e6 e7 e8 e9 e10
            go_upto_region 12 with (at_builtin; refine appQ rfl (.tmp 42) (.tmp 44) rfl (b + 1) _ _ (L + 1) (P ++ [(4, [91], 0)]) rfl (HO.out.alloc _) (some ⟨wm2.heap.size, 0, none⟩) 1 1 [(4, [58], 0)] rfl (tk_block [(4, [58], 0)] (al_new _ _) rfl rfl (by omega)) (by have := HP.out; omega) (Nat.le_trans HX.out.lt (by simp)) ?_; intro v11 w11 own gr; have HON := Lib.hid own; have HXN := Lib.hid ((HX.out.keep ((Below.refl _ wm2).alloc (Nat.le_refl _) _)).grown HB0.out gr (fun q e => (HO.out.lt q e).1)); clear own gr)
            have HO := HON
            have HX := HXN
            clear HON HXN
            have e0 := cell_blk HX.out.box 0
            have e1 := cell_blk HX.out.box 1
            have e2 := cell_blk HX.out.box 2
            have e3 := cell_blk HX.out.box 3
            have e4 := cell_blk HX.out.box 4
            have e5 := cell_blk HX.out.box 5
            have e6 := cell_blk HX.out.box 6
            have e7 := cell_blk HX.out.box 7
            have e8 := cell_blk HX.out.box 8
            have e9 := cell_blk HX.out.box 9
            have e10 := cell_blk HX.out.box 10
            go_upto_region 14 with (at_builtin; refine appQ rfl (.tmp 49) (.tmp 54) rfl (b + 1) _ _ (L + 1 + 1) (P ++ [(4, [91], 0)] ++ [(4, [58], 0)]) rfl (HO.out.alloc _) (some ⟨w11.heap.size, 0, none⟩) 1 1 [(2, [], hi)] rfl (tk_block [(2, [], hi)] (al_new _ _) rfl rfl (by omega)) (by have := HP.out; omega) (Nat.le_trans HX.out.lt (by simp)) ?_; intro v12 w12 own gr; have HON := Lib.hid own; have HXN := Lib.hid ((HX.out.keep ((Below.refl _ w11).alloc (Nat.le_refl _) _)).grown HB0.out gr (fun q e => (HO.out.lt q e).1)); clear own gr)
            have HO := HON
            have HX := HXN
            clear HON HXN
            clear e0 e1 e2 e3 e4 e5 e6 e7 e8 e9 e10
            have e0 := cell_blk HX.out.box 0
            have e1 := cell_blk HX.out.box 1
            have e2 := cell_blk HX.out.box 2
            have e3 := cell_blk HX.out.box 3
            have e4 := cell_blk HX.out.box 4
            have e5 := cell_blk HX.out.box 5
            have e6 := cell_blk HX.out.box 6
            have e7 := cell_blk HX.out.box 7
            have e8 := cell_blk HX.out.box 8
            have e9 := cell_blk HX.out.box 9
            have e10 := cell_blk HX.out.box 10
            go_wp2_with fail
            (with_reducible refine (rmark_any ⟨#[93]⟩ _).mono ?_)
            rintro e wm3 ⟨rfl, q⟩
            have HX := Lib.hid (HX.out.keep q)
            have HO := Lib.hid (keepB HO.out q)
            clear q e0 e1 e2 e3 e4 e5 e6 e7 e8 e9 e10
            go_upto_region 6 with (at_builtin; refine appQ rfl (.tmp 56) (.tmp 58) rfl (b + 1) _ _ (L + 1 + 1 + 1) (P ++ [(4, [91], 0)] ++ [(4, [58], 0)] ++ [(2, [], hi)]) rfl (HO.out.alloc _) (some ⟨wm3.heap.size, 0, none⟩) 1 1 [(4, [93], 0)] rfl (tk_block [(4, [93], 0)] (al_new _ _) rfl rfl (by omega)) (by have := HP.out; omega) (Nat.le_trans HX.out.lt (by simp)) ?_; intro v13 w13 own gr; have HON := Lib.hid own; have HXN := Lib.hid ((HX.out.keep ((Below.refl _ wm3).alloc (Nat.le_refl _) _)).grown HB0.out gr (fun q e => (HO.out.lt q e).1)); clear own gr)
            have HO := HON
            have HX := HXN
            clear HON HXN
            have e0 := cell_blk HX.out.box 0
            have e1 := cell_blk HX.out.box 1
            have e2 := cell_blk HX.out.box 2
            have e3 := cell_blk HX.out.box 3
            have e4 := cell_blk HX.out.box 4
            have e5 := cell_blk HX.out.box 5
            have e6 := cell_blk HX.out.box 6
            have e7 := cell_blk HX.out.box 7
            have e8 := cell_blk HX.out.box 8
            have e9 := cell_blk HX.out.box 9
            have e10 := cell_blk HX.out.box 10
            go_wp2_with fail
            go_roundw
            case rel => exact ⟨j + 1, by omega, by rw [HCN.out]; try go_num, by rw [HCI.out]; try go_num, by go_num, HX, Lib.hid (by have e := HO.out; rw [HST.out, HSN.out]; exact e)⟩
            case measure => simp [intOf]; omega
        · cases gh
          · have HST : Hid ((1, cm.word, 0) :: Lx.shW cm (sh.take (j + 1)) 0 0 = P ++ [(4, [91], 0)] ++ [(2, [], lo)] ++ [(4, [58], 0)] ++ [(4, [93], 0)]) := Lib.hid (by
              rw [HST0.out, hx]
              have e : Lx.letW cm 114 A I = Lx.rgW cm.rg := rfl
              rw [e, HRG.out]
              simp [Lx.rgW])
            have HSN : Hid ((Lx.shW cm (sh.take (j + 1)) 0 0).length + 1 = L + 1 + 1 + 1 + 1) := Lib.hid (by have e := congrArg List.length HST.out; simp only [List.length_cons, List.length_append, List.length_nil, HLL.out] at e; omega)
            clear HST0 HCN0 HCI0 hx
            go_wp2_with fail
            (with_reducible refine (rmark_any ⟨#[91]⟩ _).mono ?_)
            rintro e wm1 ⟨rfl, q⟩
            have HX := Lib.hid (HX.out.keep q)
            have HO := Lib.hid (keepB HO.out q)
            clear q e0 e1 e2 e3 e4 e5 e6 e7 e8 e9 e10
            go_upto_region 9 with (at_builtin; refine appQ rfl (.tmp 28) (.tmp 30) rfl (b + 1) _ _ (L) (P) rfl (HO.out.alloc _) (some ⟨wm1.heap.size, 0, none⟩) 1 1 [(4, [91], 0)] rfl (tk_block [(4, [91], 0)] (al_new _ _) rfl rfl (by omega)) (by have := HP.out; omega) (Nat.le_trans HX.out.lt (by simp)) ?_; intro v10 w10 own gr; have HON := Lib.hid own; have HXN := Lib.hid ((HX.out.keep ((Below.refl _ wm1).alloc (Nat.le_refl _) _)).grown HB0.out gr (fun q e => (HO.out.lt q e).1)); clear own gr)
            have HO := HON
            have HX := HXN
            clear HON HXN
            have e0 := cell_blk HX.out.box 0
            have e1 := cell_blk HX.out.box 1
            have e2 := cell_blk HX.out.box 2
            have e3 := cell_blk HX.out.box 3
            have e4 := cell_blk HX.out.box 4
            have e5 := cell_blk HX.out.box 5
            have e6 := cell_blk HX.out.box 6
            have e7 := cell_blk HX.out.box 7
            have e8 := cell_blk HX.out.box 8
            have e9 := cell_blk HX.out.box 9
            have e10 := cell_blk HX.out.box 10
            go_upto_region 11 with (at_builtin; refine appQ rfl (.tmp 35) (.tmp 40) rfl (b + 1) _ _ (L + 1) (P ++ [(4, [91], 0)]) rfl (HO.out.alloc _) (some ⟨w10.heap.size, 0, none⟩) 1 1 [(2, [], lo)] rfl (tk_block [(2, [], lo)] (al_new _ _) rfl rfl (by omega)) (by have := HP.out; omega) (Nat.le_trans HX.out.lt (by simp)) ?_; intro v11 w11 own gr; have HON := Lib.hid own; have HXN := Lib.hid ((HX.out.keep ((Below.refl _ w10).alloc (Nat.le_refl _) _)).grown HB0.out gr (fun q e => (HO.out.lt q e).1)); clear own gr)
            have HO := HON
            have HX := HXN
            clear HON HXN
            clear e0 e1 e2 e3 e4 e5 e6 e7 e8 e9 e10
            have e0 := cell_blk HX.out.box 0
            have e1 := cell_blk HX.out.box 1
            have e2 := cell_blk HX.out.box 2
            have e3 := cell_blk HX.out.box 3
            have e4 := cell_blk HX.out.box 4
            have e5 := cell_blk HX.out.box 5
            have e6 := cell_blk HX.out.box 6
            have e7 := cell_blk HX.out.box 7
            have e8 := cell_blk HX.out.box 8
            have e9 := cell_blk HX.out.box 9
            have e10 := cell_blk HX.out.box 10
            go_wp2_with fail
            (with_reducible refine (rmark_any ⟨#[58]⟩ _).mono ?_)
            rintro e wm2 ⟨rfl, q⟩
            have HX := Lib.hid (HX.out.keep q)
            have HO := Lib.hid (keepB HO.out q)
            clear q e0 e1 e2 e3 e4 e5 e6 e7 e8 e9 e10
            go_upto_region 12 with (at_builtin; refine appQ rfl (.tmp 42) (.tmp 44) rfl (b + 1) _ _ (L + 1 + 1) (P ++ [(4, [91], 0)] ++ [(2, [], lo)]) rfl (HO.out.alloc _) (some ⟨wm2.heap.size, 0, none⟩) 1 1 [(4, [58], 0)] rfl (tk_block [(4, [58], 0)] (al_new _ _) rfl rfl (by omega)) (by have := HP.out; omega) (Nat.le_trans HX.out.lt (by simp)) ?_; intro v12 w12 own gr; have HON := Lib.hid own; have HXN := Lib.hid ((HX.out.keep ((Below.refl _ wm2).alloc (Nat.le_refl _) _)).grown HB0.out gr (fun q e => (HO.out.lt q e).1)); clear own gr)
            have HO := HON
            have HX := HXN
            clear HON HXN
            have e0 := cell_blk HX.out.box 0
            have e1 := cell_blk HX.out.box 1
            have e2 := cell_blk HX.out.box 2
            have e3 := cell_blk HX.out.box 3
            have e4 := cell_blk HX.out.box 4
            have e5 := cell_blk HX.out.box 5
            have e6 := cell_blk HX.out.box 6
            have e7 := cell_blk HX.out.box 7
            have e8 := cell_blk HX.out.box 8
            have e9 := cell_blk HX.out.box 9
            have e10 := cell_blk HX.out.box 10
            go_wp2_with fail
            (with_reducible refine (rmark_any ⟨#[93]⟩ _).mono ?_)
            rintro e wm3 ⟨rfl, q⟩
            have HX := Lib.hid (HX.out.keep q)
            have HO := Lib.hid (keepB HO.out q)
            clear q e0 e1 e2 e3 e4 e5 e6 e7 e8 e9 e10
            go_upto_region 6 with (at_builtin; refine appQ rfl (.tmp 56) (.tmp 58) rfl (b + 1) _ _ (L + 1 + 1 + 1) (P ++ [(4, [91], 0)] ++ [(2, [], lo)] ++ [(4, [58], 0)]) rfl (HO.out.alloc _) (some ⟨wm3.heap.size, 0, none⟩) 1 1 [(4, [93], 0)] rfl (tk_block [(4, [93], 0)] (al_new _ _) rfl rfl (by omega)) (by have := HP.out; omega) (Nat.le_trans HX.out.lt (by simp)) ?_; intro v13 w13 own gr; have HON := Lib.hid own; have HXN := Lib.hid ((HX.out.keep ((Below.refl _ wm3).alloc (Nat.le_refl _) _)).grown HB0.out gr (fun q e => (HO.out.lt q e).1)); clear own gr)
            have HO := HON
            have HX := HXN
            clear HON HXN
            have e0 := cell_blk HX.out.box 0
            have e1 := cell_blk HX.out.box 1
            have e2 := cell_blk HX.out.box 2
            have e3 := cell_blk HX.out.box 3
            have e4 := cell_blk HX.out.box 4
            have e5 := cell_blk HX.out.box 5
            have e6 := cell_blk HX.out.box 6
            have e7 := cell_blk HX.out.box 7
            have e8 := cell_blk HX.out.box 8
            have e9 := cell_blk HX.out.box 9
            have e10 := cell_blk HX.out.box 10
            go_wp2_with fail
            go_roundw
            case rel => exact ⟨j + 1, by omega, by rw [HCN.out]; try go_num, by rw [HCI.out]; try go_num, by go_num, HX, Lib.hid (by have e := HO.out; rw [HST.out, HSN.out]; exact e)⟩
            case measure => simp [intOf]; omega
          · have HST : Hid ((1, cm.word, 0) :: Lx.shW cm (sh.take (j + 1)) 0 0 = P ++ [(4, [91], 0)] ++ [(2, [], lo)] ++ [(4, [58], 0)] ++ [(2, [], hi)] ++ [(4, [93], 0)]) := Lib.hid (by
              rw [HST0.out, hx]
              have e : Lx.letW cm 114 A I = Lx.rgW cm.rg := rfl
              rw [e, HRG.out]
              simp [Lx.rgW])
            have HSN : Hid ((Lx.shW cm (sh.take (j + 1)) 0 0).length + 1 = L + 1 + 1 + 1 + 1 + 1) := Lib.hid (by have e := congrArg List.length HST.out; simp only [List.length_cons, List.length_append, List.length_nil, HLL.out] at e; omega)
            clear HST0 HCN0 HCI0 hx
            go_wp2_with fail
            (with_reducible refine (rmark_any ⟨#[91]⟩ _).mono ?_)
            rintro e wm1 ⟨rfl, q⟩
            have HX := Lib.hid (HX.out.keep q)
            have HO := Lib.hid (keepB HO.out q)
            clear q e0 e1 e2 e3 e4 e5 e6 e7 e8 e9 e10
            go_upto_region 9 with (at_builtin; refine appQ rfl (.tmp 28) (.tmp 30) rfl (b + 1) _ _ (L) (P) rfl (HO.out.alloc _) (some ⟨wm1.heap.size, 0, none⟩) 1 1 [(4, [91], 0)] rfl (tk_block [(4, [91], 0)] (al_new _ _) rfl rfl (by omega)) (by have := HP.out; omega) (Nat.le_trans HX.out.lt (by simp)) ?_; intro v10 w10 own gr; have HON := Lib.hid own; have HXN := Lib.hid ((HX.out.keep ((Below.refl _ wm1).alloc (Nat.le_refl _) _)).grown HB0.out gr (fun q e => (HO.out.lt q e).1)); clear own gr)
            have HO := HON
            have HX := HXN
            clear HON HXN
            have e0 := cell_blk HX.out.box 0
            have e1 := cell_blk HX.out.box 1
            have e2 := cell_blk HX.out.box 2
            have e3 := cell_blk HX.out.box 3
            have e4 := cell_blk HX.out.box 4
            have e5 := cell_blk HX.out.box 5
            have e6 := cell_blk HX.out.box 6
            have e7 := cell_blk HX.out.box 7
            have e8 := cell_blk HX.out.box 8
            have e9 := cell_blk HX.out.box 9
            have e10 := cell_blk HX.out.box 10
            go_upto_region 11 with (at_builtin; refine appQ rfl (.tmp 35) (.tmp 40) rfl (b + 1) _ _ (L + 1) (P ++ [(4, [91], 0)]) rfl (HO.out.alloc _) (some ⟨w10.heap.size, 0, none⟩) 1 1 [(2, [], lo)] rfl (tk_block [(2, [], lo)] (al_new _ _) rfl rfl (by omega)) (by have := HP.out; omega) (Nat.le_trans HX.out.lt (by simp)) ?_; intro v11 w11 own gr; have HON := Lib.hid own; have HXN := Lib.hid ((HX.out.keep ((Below.refl _ w10).alloc (Nat.le_refl _) _)).grown HB0.out gr (fun q e => (HO.out.lt q e).1)); clear own gr)
            have HO := HON
            have HX := HXN
            clear HON HXN
            clear e0 e1 e2 e3 e4 e5 e6 e7 e8 e9 e10
            have e0 := cell_blk HX.out.box 0
            have e1 := cell_blk HX.out.box 1
            have e2 := cell_blk HX.out.box 2
            have e3 := cell_blk HX.out.box 3
            have e4 := cell_blk HX.out.box 4
            have e5 := cell_blk HX.out.box 5
            have e6 := cell_blk HX.out.box 6
            have e7 := cell_blk HX.out.box 7
            have e8 := cell_blk HX.out.box 8
            have e9 := cell_blk HX.out.box 9
            have e10 := cell_blk HX.out.box 10
            go_wp2_with fail
            (with_reducible refine (rmark_any ⟨#[58]⟩ _).mono ?_)
            rintro e wm2 ⟨rfl, q⟩
            have HX := Lib.hid (HX.out.keep q)
            have HO := Lib.hid (keepB HO.out q)
            clear q e0 e1 e2 e3 e4 e5 e6 e7 e8 e9 e10
            go_upto_region 12 with (at_builtin; refine appQ rfl (.tmp 42) (.tmp 44) rfl (b + 1) _ _ (L + 1 + 1) (P ++ [(4, [91], 0)] ++ [(2, [], lo)]) rfl (HO.out.alloc _) (some ⟨wm2.heap.size, 0, none⟩) 1 1 [(4, [58], 0)] rfl (tk_block [(4, [58], 0)] (al_new _ _) rfl rfl (by omega)) (by have := HP.out; omega) (Nat.le_trans HX.out.lt (by simp)) ?_; intro v12 w12 own gr; have HON := Lib.hid own; have HXN := Lib.hid ((HX.out.keep ((Below.refl _ wm2).alloc (Nat.le_refl _) _)).grown HB0.out gr (fun q e => (HO.out.lt q e).1)); clear own gr)
            have HO := HON
            have HX := HXN
            clear HON HXN
            have e0 := cell_blk HX.out.box 0
            have e1 := cell_blk HX.out.box 1
            have e2 := cell_blk HX.out.box 2
            have e3 := cell_blk HX.out.box 3
            have e4 := cell_blk HX.out.box 4
            have e5 := cell_blk HX.out.box 5
            have e6 := cell_blk HX.out.box 6
            have e7 := cell_blk HX.out.box 7
            have e8 := cell_blk HX.out.box 8
            have e9 := cell_blk HX.out.box 9
            have e10 := cell_blk HX.out.box 10
            go_upto_region 14 with (at_builtin; refine appQ rfl (.tmp 49) (.tmp 54) rfl (b + 1) _ _ (L + 1 + 1 + 1) (P ++ [(4, [91], 0)] ++ [(2, [], lo)] ++ [(4, [58], 0)]) rfl (HO.out.alloc _) (some ⟨w12.heap.size, 0, none⟩) 1 1 [(2, [], hi)] rfl (tk_block [(2, [], hi)] (al_new _ _) rfl rfl (by omega)) (by have := HP.out; omega) (Nat.le_trans HX.out.lt (by simp)) ?_; intro v13 w13 own gr; have HON := Lib.hid own; have HXN := Lib.hid ((HX.out.keep ((Below.refl _ w12).alloc (Nat.le_refl _) _)).grown HB0.out gr (fun q e => (HO.out.lt q e).1)); clear own gr)
            have HO := HON
            have HX := HXN
            clear HON HXN
            clear e0 e1 e2 e3 e4 e5 e6 e7 e8 e9 e10
            have e0 := cell_blk HX.out.box 0
            have e1 := cell_blk HX.out.box 1
            have e2 := cell_blk HX.out.box 2
            have e3 := cell_blk HX.out.box 3
            have e4 := cell_blk HX.out.box 4
            have e5 := cell_blk HX.out.box 5
            have e6 := cell_blk HX.out.box 6
            have e7 := cell_blk HX.out.box 7
            have e8 := cell_blk HX.out.box 8
            have e9 := cell_blk HX.out.box 9
            have e10 := cell_blk HX.out.box 10
            go_wp2_with fail
            (with_reducible refine (rmark_any ⟨#[93]⟩ _).mono ?_)
            rintro e wm3 ⟨rfl, q⟩
            have HX := Lib.hid (HX.out.keep q)
            have HO := Lib.hid (keepB HO.out q)
            clear q e0 e1 e2 e3 e4 e5 e6 e7 e8 e9 e10
            go_upto_region 6 with (at_builtin; refine appQ rfl (.tmp 56) (.tmp 58) rfl (b + 1) _ _ (L + 1 + 1 + 1 + 1) (P ++ [(4, [91], 0)] ++ [(2, [], lo)] ++ [(4, [58], 0)] ++ [(2, [], hi)]) rfl (HO.out.alloc _) (some ⟨wm3.heap.size, 0, none⟩) 1 1 [(4, [93], 0)] rfl (tk_block [(4, [93], 0)] (al_new _ _) rfl rfl (by omega)) (by have := HP.out; omega) (Nat.le_trans HX.out.lt (by simp)) ?_; intro v14 w14 own gr; have HON := Lib.hid own; have HXN := Lib.hid ((HX.out.keep ((Below.refl _ wm3).alloc (Nat.le_refl _) _)).grown HB0.out gr (fun q e => (HO.out.lt q e).1)); clear own gr)
            have HO := HON
            have HX := HXN
            clear HON HXN
            have e0 := cell_blk HX.out.box 0
            have e1 := cell_blk HX.out.box 1
            have e2 := cell_blk HX.out.box 2
            have e3 := cell_blk HX.out.box 3
            have e4 := cell_blk HX.out.box 4
            have e5 := cell_blk HX.out.box 5
            have e6 := cell_blk HX.out.box 6
            have e7 := cell_blk HX.out.box 7
            have e8 := cell_blk HX.out.box 8
            have e9 := cell_blk HX.out.box 9
            have e10 := cell_blk HX.out.box 10
            go_wp2_with fail
            go_roundw
            case rel => exact ⟨j + 1, by omega, by rw [HCN.out]; try go_num, by rw [HCI.out]; try go_num, by go_num, HX, Lib.hid (by have e := HO.out; rw [HST.out, HSN.out]; exact e)⟩
            case measure => simp [intOf]; omega
    · have j1 : ¬ (j : Int) < (sb.size : Int) := by have := HSS.out; omega
      obtain rfl : sh.length = j := by omega
      have HTO : Hid ((1, cm.word, 0) :: Lx.shW cm (sh.take sh.length) 0 0 = Lx.toldC cm sh) := Lib.hid (by rw [List.take_length]; rfl)
      have HTL : Hid ((Lx.shW cm (sh.take sh.length) 0 0).length + 1 = (Lx.toldC cm sh).length) := Lib.hid (by rw [← HTO.out]; rfl)
      rw [HTO.out, HTL.out] at HO
      go_wp2_with fail
      obtain ⟨ao, c, rfl, ht⟩ := own_tk2 HO.out rfl
      go_returns
      exact ⟨ao, c, rfl, Lib.hid HX.out.bw, Lib.hid ht⟩
end Go.Proofs.YtllhcpkpbipjlaaDoor
