/- Y5, Q9 in one. -/
import Derived.Test.YtimjendkpjojoaaGreatDoorKi
namespace Go.Proofs.YtimjendkpjojoaaGreatDoor
set_option linter.unusedVariables false
set_option linter.unusedSimpArgs false
open Go.ChangeShapes Go.WideShapes Go.ChangeAt Go.RowKit
theorem sh_0 (w : World) : Calls Tryz.prog 30 #[.string ⟨#[100, 101, 102, 105, 110, 101]⟩] w fun e w' => e = .returned (.tuple #[.string ⟨#[110, 61, 101]⟩, .bool true]) ∧ w = w' := by
  go_enter Tryz.func30, Tryz.ntmps30
  go_wp2
  go_returns
  exact ⟨rfl, rfl⟩
theorem sh_1 (w : World) : Calls Tryz.prog 30 #[.string ⟨#[100, 114, 111, 112]⟩] w fun e w' => e = .returned (.tuple #[.string ⟨#[110]⟩, .bool true]) ∧ w = w' := by
  go_enter Tryz.func30, Tryz.ntmps30
  go_wp2
  go_returns
  exact ⟨rfl, rfl⟩
theorem sh_2 (w : World) : Calls Tryz.prog 30 #[.string ⟨#[115, 104, 111, 119]⟩] w fun e w' => e = .returned (.tuple #[.string ⟨#[110]⟩, .bool true]) ∧ w = w' := by
  go_enter Tryz.func30, Tryz.ntmps30
  go_wp2
  go_returns
  exact ⟨rfl, rfl⟩
theorem sh_3 (w : World) : Calls Tryz.prog 30 #[.string ⟨#[102, 111, 114, 109]⟩] w fun e w' => e = .returned (.tuple #[.string ⟨#[110]⟩, .bool true]) ∧ w = w' := by
  go_enter Tryz.func30, Tryz.ntmps30
  go_wp2
  go_returns
  exact ⟨rfl, rfl⟩
theorem sh_4 (w : World) : Calls Tryz.prog 30 #[.string ⟨#[118, 97, 114]⟩] w fun e w' => e = .returned (.tuple #[.string ⟨#[110]⟩, .bool true]) ∧ w = w' := by
  go_enter Tryz.func30, Tryz.ntmps30
  go_wp2
  go_returns
  exact ⟨rfl, rfl⟩
theorem sh_5 (w : World) : Calls Tryz.prog 30 #[.string ⟨#[101, 120, 116, 101, 110, 116]⟩] w fun e w' => e = .returned (.tuple #[.string ⟨#[110, 105]⟩, .bool true]) ∧ w = w' := by
  go_enter Tryz.func30, Tryz.ntmps30
  go_wp2
  go_returns
  exact ⟨rfl, rfl⟩
theorem sh_6 (w : World) : Calls Tryz.prog 30 #[.string ⟨#[103, 114, 97, 110, 117, 108, 101]⟩] w fun e w' => e = .returned (.tuple #[.string ⟨#[110, 105]⟩, .bool true]) ∧ w = w' := by
  go_enter Tryz.func30, Tryz.ntmps30
  go_wp2
  go_returns
  exact ⟨rfl, rfl⟩
theorem sh_7 (w : World) : Calls Tryz.prog 30 #[.string ⟨#[110, 101, 120, 116]⟩] w fun e w' => e = .returned (.tuple #[.string ⟨#[110, 105]⟩, .bool true]) ∧ w = w' := by
  go_enter Tryz.func30, Tryz.ntmps30
  go_wp2
  go_returns
  exact ⟨rfl, rfl⟩
theorem sh_8 (w : World) : Calls Tryz.prog 30 #[.string ⟨#[112, 114, 101, 118]⟩] w fun e w' => e = .returned (.tuple #[.string ⟨#[110, 105]⟩, .bool true]) ∧ w = w' := by
  go_enter Tryz.func30, Tryz.ntmps30
  go_wp2
  go_returns
  exact ⟨rfl, rfl⟩
theorem sh_9 (w : World) : Calls Tryz.prog 30 #[.string ⟨#[115, 112, 97, 110]⟩] w fun e w' => e = .returned (.tuple #[.string ⟨#[110, 105]⟩, .bool true]) ∧ w = w' := by
  go_enter Tryz.func30, Tryz.ntmps30
  go_wp2
  go_returns
  exact ⟨rfl, rfl⟩
theorem sh_10 (w : World) : Calls Tryz.prog 30 #[.string ⟨#[114, 101, 108]⟩] w fun e w' => e = .returned (.tuple #[.string ⟨#[110, 110]⟩, .bool true]) ∧ w = w' := by
  go_enter Tryz.func30, Tryz.ntmps30
  go_wp2
  go_returns
  exact ⟨rfl, rfl⟩
theorem sh_11 (w : World) : Calls Tryz.prog 30 #[.string ⟨#[99, 111, 118, 101, 114]⟩] w fun e w' => e = .returned (.tuple #[.string ⟨#[110, 110, 105]⟩, .bool true]) ∧ w = w' := by
  go_enter Tryz.func30, Tryz.ntmps30
  go_wp2
  go_returns
  exact ⟨rfl, rfl⟩
theorem sh_12 (w : World) : Calls Tryz.prog 30 #[.string ⟨#[98, 111, 117, 110, 100]⟩] w fun e w' => e = .returned (.tuple #[.string ⟨#[110, 110, 110, 114]⟩, .bool true]) ∧ w = w' := by
  go_enter Tryz.func30, Tryz.ntmps30
  go_wp2
  go_returns
  exact ⟨rfl, rfl⟩
theorem sh_13 (w : World) : Calls Tryz.prog 30 #[.string ⟨#[100, 97, 116, 101]⟩] w fun e w' => e = .returned (.tuple #[.string ⟨#[105]⟩, .bool true]) ∧ w = w' := by
  go_enter Tryz.func30, Tryz.ntmps30
  go_wp2
  go_returns
  exact ⟨rfl, rfl⟩
theorem sh_14 (w : World) : Calls Tryz.prog 30 #[.string ⟨#[115, 111, 108, 118, 101]⟩] w fun e w' => e = .returned (.tuple #[.string ⟨#[105, 105, 105]⟩, .bool true]) ∧ w = w' := by
  go_enter Tryz.func30, Tryz.ntmps30
  go_wp2
  go_returns
  exact ⟨rfl, rfl⟩
theorem sh_15 (w : World) : Calls Tryz.prog 30 #[.string ⟨#[110, 101, 116]⟩] w fun e w' => e = .returned (.tuple #[.string ⟨#[]⟩, .bool true]) ∧ w = w' := by
  go_enter Tryz.func30, Tryz.ntmps30
  go_wp2
  go_returns
  exact ⟨rfl, rfl⟩
theorem sh_16 (w : World) : Calls Tryz.prog 30 #[.string ⟨#[105, 110, 102, 101, 114]⟩] w fun e w' => e = .returned (.tuple #[.string ⟨#[]⟩, .bool true]) ∧ w = w' := by
  go_enter Tryz.func30, Tryz.ntmps30
  go_wp2
  go_returns
  exact ⟨rfl, rfl⟩
theorem sh_17 (w : World) : Calls Tryz.prog 30 #[.string ⟨#[114, 101, 115, 101, 116]⟩] w fun e w' => e = .returned (.tuple #[.string ⟨#[]⟩, .bool true]) ∧ w = w' := by
  go_enter Tryz.func30, Tryz.ntmps30
  go_wp2
  go_returns
  exact ⟨rfl, rfl⟩
set_option maxHeartbeats 1000000 in
theorem sh_none (s : ByteArray) (w : World) (h0 : (s.toList == [100, 101, 102, 105, 110, 101]) = false) (h1 : (s.toList == [100, 114, 111, 112]) = false) (h2 : (s.toList == [115, 104, 111, 119]) = false) (h3 : (s.toList == [102, 111, 114, 109]) = false) (h4 : (s.toList == [118, 97, 114]) = false) (h5 : (s.toList == [101, 120, 116, 101, 110, 116]) = false) (h6 : (s.toList == [103, 114, 97, 110, 117, 108, 101]) = false) (h7 : (s.toList == [110, 101, 120, 116]) = false) (h8 : (s.toList == [112, 114, 101, 118]) = false) (h9 : (s.toList == [115, 112, 97, 110]) = false) (h10 : (s.toList == [114, 101, 108]) = false) (h11 : (s.toList == [99, 111, 118, 101, 114]) = false) (h12 : (s.toList == [98, 111, 117, 110, 100]) = false) (h13 : (s.toList == [100, 97, 116, 101]) = false) (h14 : (s.toList == [115, 111, 108, 118, 101]) = false) (h15 : (s.toList == [110, 101, 116]) = false) (h16 : (s.toList == [105, 110, 102, 101, 114]) = false) (h17 : (s.toList == [114, 101, 115, 101, 116]) = false) : Calls Tryz.prog 30 #[.string s] w fun e w' => e = .returned (.tuple #[.string ⟨#[]⟩, .bool false]) ∧ w = w' := by
  go_enter Tryz.func30, Tryz.ntmps30
  go_wp2
  go_returns
  exact ⟨rfl, rfl⟩
theorem str_of (s : ByteArray) (l : List UInt8) (h : s.data.toList = l) : s = ⟨l.toArray⟩ := by
  cases s with | mk d => cases d with | mk k => simp at h; subst h; rfl
/-- What Shape tells. -/
def shV : Option (List UInt8) → Value
  | none => .tuple #[.string ⟨#[]⟩, .bool false]
  | some x => .tuple #[.string ⟨x.toArray⟩, .bool true]
theorem ne_of (s : ByteArray) (l : List UInt8) (h : ¬ s.data.toList = l) : (s.toList == l) = false := by
  rw [ByteArray.toList_eq]; simpa using h
theorem shape_any (s : ByteArray) (w : World) : Calls Tryz.prog 30 #[.string s] w fun e w' => e = .returned (shV (Lx.shape s.data.toList)) ∧ w = w' := by
  obtain ⟨l, hl⟩ : ∃ l, s.data.toList = l := ⟨_, rfl⟩
  by_cases h0 : l = [100, 101, 102, 105, 110, 101]
  · subst h0
    rw [hl, str_of s _ hl]; exact sh_0 w
  · by_cases h1 : l = [100, 114, 111, 112]
    · subst h1
      rw [hl, str_of s _ hl]; exact sh_1 w
    · by_cases h2 : l = [115, 104, 111, 119]
      · subst h2
        rw [hl, str_of s _ hl]; exact sh_2 w
      · by_cases h3 : l = [102, 111, 114, 109]
        · subst h3
          rw [hl, str_of s _ hl]; exact sh_3 w
        · by_cases h4 : l = [118, 97, 114]
          · subst h4
            rw [hl, str_of s _ hl]; exact sh_4 w
          · by_cases h5 : l = [101, 120, 116, 101, 110, 116]
            · subst h5
              rw [hl, str_of s _ hl]; exact sh_5 w
            · by_cases h6 : l = [103, 114, 97, 110, 117, 108, 101]
              · subst h6
                rw [hl, str_of s _ hl]; exact sh_6 w
              · by_cases h7 : l = [110, 101, 120, 116]
                · subst h7
                  rw [hl, str_of s _ hl]; exact sh_7 w
                · by_cases h8 : l = [112, 114, 101, 118]
                  · subst h8
                    rw [hl, str_of s _ hl]; exact sh_8 w
                  · by_cases h9 : l = [115, 112, 97, 110]
                    · subst h9
                      rw [hl, str_of s _ hl]; exact sh_9 w
                    · by_cases h10 : l = [114, 101, 108]
                      · subst h10
                        rw [hl, str_of s _ hl]; exact sh_10 w
                      · by_cases h11 : l = [99, 111, 118, 101, 114]
                        · subst h11
                          rw [hl, str_of s _ hl]; exact sh_11 w
                        · by_cases h12 : l = [98, 111, 117, 110, 100]
                          · subst h12
                            rw [hl, str_of s _ hl]; exact sh_12 w
                          · by_cases h13 : l = [100, 97, 116, 101]
                            · subst h13
                              rw [hl, str_of s _ hl]; exact sh_13 w
                            · by_cases h14 : l = [115, 111, 108, 118, 101]
                              · subst h14
                                rw [hl, str_of s _ hl]; exact sh_14 w
                              · by_cases h15 : l = [110, 101, 116]
                                · subst h15
                                  rw [hl, str_of s _ hl]; exact sh_15 w
                                · by_cases h16 : l = [105, 110, 102, 101, 114]
                                  · subst h16
                                    rw [hl, str_of s _ hl]; exact sh_16 w
                                  · by_cases h17 : l = [114, 101, 115, 101, 116]
                                    · subst h17
                                      rw [hl, str_of s _ hl]; exact sh_17 w
                                    · have e : Lx.shape l = none := by unfold Lx.shape Lx.shapes; simp only [Lx.shGo, h0, h1, h2, h3, h4, h5, h6, h7, h8, h9, h10, h11, h12, h13, h14, h15, h16, h17, if_false]
                                      rw [hl, e]
                                      exact sh_none s w (ne_of s _ (by rw [hl]; exact h0)) (ne_of s _ (by rw [hl]; exact h1)) (ne_of s _ (by rw [hl]; exact h2)) (ne_of s _ (by rw [hl]; exact h3)) (ne_of s _ (by rw [hl]; exact h4)) (ne_of s _ (by rw [hl]; exact h5)) (ne_of s _ (by rw [hl]; exact h6)) (ne_of s _ (by rw [hl]; exact h7)) (ne_of s _ (by rw [hl]; exact h8)) (ne_of s _ (by rw [hl]; exact h9)) (ne_of s _ (by rw [hl]; exact h10)) (ne_of s _ (by rw [hl]; exact h11)) (ne_of s _ (by rw [hl]; exact h12)) (ne_of s _ (by rw [hl]; exact h13)) (ne_of s _ (by rw [hl]; exact h14)) (ne_of s _ (by rw [hl]; exact h15)) (ne_of s _ (by rw [hl]; exact h16)) (ne_of s _ (by rw [hl]; exact h17))

namespace Lx
def rgW (r : Rg) : List Tk := (4, [91], 0) :: ((if r.hl = true then [(2, [], r.low)] else []) ++ (4, [58], 0) :: ((if r.hh = true then [(2, [], r.high)] else []) ++ [(4, [93], 0)]))
/-- The words of a shape's letter. -/
def letW (c : Cm) (x : UInt8) (a b : Nat) : List Tk :=
  if x = 110 then [(1, c.names.getD a [], 0)] else if x = 105 then [(2, [], c.nums.getD b 0)] else if x = 101 then wordsX c.ex else if x = 61 then [(4, [61], 0)] else rgW c.rg
def upN (x : UInt8) : Nat := if x = 110 then 1 else 0
def upI (x : UInt8) : Nat := if x = 105 then 1 else 0
def cN : List UInt8 → Nat
  | [] => 0
  | x :: r => upN x + cN r
def cI : List UInt8 → Nat
  | [] => 0
  | x :: r => upI x + cI r
def shW (c : Cm) : List UInt8 → Nat → Nat → List Tk
  | [], _, _ => []
  | x :: r, a, b => letW c x a b ++ shW c r (a + upN x) (b + upI x)
def toldC (c : Cm) (sh : List UInt8) : List Tk := (1, c.word, 0) :: shW c sh 0 0
theorem shW_app (c : Cm) : ∀ (p q : List UInt8) (a b : Nat), shW c (p ++ q) a b = shW c p a b ++ shW c q (a + cN p) (b + cI p)
  | [], q, a, b => by rw [shW, cN, cI]; rfl
  | x :: r, q, a, b => by
    rw [List.cons_append, shW, shW, shW_app c r q, cN, cI, List.append_assoc, Nat.add_assoc, Nat.add_assoc]
theorem cN_app : ∀ p q : List UInt8, cN (p ++ q) = cN p + cN q
  | [], q => by rw [cN]; simp
  | x :: r, q => by rw [List.cons_append, cN, cN, cN_app r q]; omega
theorem cI_app : ∀ p q : List UInt8, cI (p ++ q) = cI p + cI q
  | [], q => by rw [cI]; simp
  | x :: r, q => by rw [List.cons_append, cI, cI, cI_app r q]; omega
theorem cN_len : ∀ p : List UInt8, cN p ≤ p.length
  | [] => Nat.le_refl _
  | x :: r => by have := cN_len r; rw [cN, List.length_cons]; unfold upN; split <;> omega
theorem cI_len : ∀ p : List UInt8, cI p ≤ p.length
  | [] => Nat.le_refl _
  | x :: r => by have := cI_len r; rw [cI, List.length_cons]; unfold upI; split <;> omega
theorem shW_step (c : Cm) (sh : List UInt8) (j : Nat) (h : j < sh.length) : shW c (sh.take (j + 1)) 0 0 = shW c (sh.take j) 0 0 ++ letW c sh[j] (cN (sh.take j)) (cI (sh.take j)) := by
  rw [List.take_succ_eq_append_getElem h, shW_app, shW, shW, List.append_nil, Nat.zero_add, Nat.zero_add]
theorem cN_step (sh : List UInt8) (j : Nat) (h : j < sh.length) : cN (sh.take (j + 1)) = cN (sh.take j) + upN sh[j] := by
  rw [List.take_succ_eq_append_getElem h, cN_app, cN, cN]; omega
theorem cI_step (sh : List UInt8) (j : Nat) (h : j < sh.length) : cI (sh.take (j + 1)) = cI (sh.take j) + upI sh[j] := by
  rw [List.take_succ_eq_append_getElem h, cI_app, cI, cI]; omega
theorem cN_take (sh : List UInt8) (j : Nat) (h : j < sh.length) (hx : sh[j] = 110) : cN (sh.take j) < cN sh := by
  have := congrArg cN (List.take_append_drop (j + 1) sh)
  rw [cN_app, cN_step sh j h, hx] at this
  have e : upN 110 = 1 := rfl
  omega
theorem cI_take (sh : List UInt8) (j : Nat) (h : j < sh.length) (hx : sh[j] = 105) : cI (sh.take j) < cI sh := by
  have := congrArg cI (List.take_append_drop (j + 1) sh)
  rw [cI_app, cI_step sh j h, hx] at this
  have e : upI 105 = 1 := rfl
  omega
theorem rgW_len (r : Rg) : (rgW r).length ≤ 5 := by
  unfold rgW; split <;> split <;> simp
theorem letW_len (c : Cm) (x : UInt8) (a b : Nat) (h : x = 101 → (wordsX c.ex).length ≤ 19999) : (letW c x a b).length ≤ 19999 := by
  have := rgW_len c.rg
  unfold letW
  split
  · simp
  · split
    · simp
    · split
      · rename_i e; exact h e
      · split
        · simp
        · omega
theorem shW_len (c : Cm) : ∀ (p : List UInt8) (a b : Nat), (101 ∈ p → (wordsX c.ex).length ≤ 19999) → (shW c p a b).length ≤ 19999 * p.length
  | [], a, b, _ => by rw [shW]; exact Nat.zero_le _
  | x :: r, a, b, h => by
    have h1 := letW_len c x a b (fun e => h (by rw [e]; exact List.mem_cons_self))
    have h2 := shW_len c r (a + upN x) (b + upI x) (fun e => h (List.mem_cons_of_mem _ e))
    rw [shW, List.length_append, List.length_cons]; omega
/-- The shapes that there are. -/
def shapesL : List (List UInt8) := [[110, 61, 101], [110], [110, 105], [110, 110], [110, 110, 105], [110, 110, 110, 114], [105], [105, 105, 105], []]
theorem shape_in {w sh : List UInt8} (h : shape w = some sh) : sh ∈ shapesL := by
  obtain ⟨p, hp, rfl⟩ := shGo_mem shapes w sh h
  have e : ∀ x ∈ shapes, x.2 ∈ shapesL := by decide
  exact e p hp
theorem shape_let {sh : List UInt8} (h : sh ∈ shapesL) : sh.length ≤ 4 ∧ ∀ x ∈ sh, x = 110 ∨ x = 105 ∨ x = 101 ∨ x = 61 ∨ x = 114 := by
  have e : ∀ s ∈ shapesL, s.length ≤ 4 ∧ ∀ x ∈ s, x = 110 ∨ x = 105 ∨ x = 101 ∨ x = 61 ∨ x = 114 := by decide
  exact e sh h
end Lx
end Go.Proofs.YtimjendkpjojoaaGreatDoor
