/- URLs: schemes and their ports; two texts that may be there. -/
import Derived.Test.YtofjngfeclmneaaDoorUrlP
namespace Go.Proofs.YtofjngfeclmneaaDoor.UrlA
open Go.RowKit Go.Proofs.YtofjngfeclmneaaDoor.Base Go.Proofs.YtofjngfeclmneaaDoor.Base2 Go.Proofs.YtofjngfeclmneaaDoor.UrlP

def portOf (L : List UInt8) : Int := if L = [102, 116, 112] then 21 else if L = [104, 116, 116, 112] ∨ L = [119, 115] then 80 else if L = [104, 116, 116, 112, 115] ∨ L = [119, 115, 115] then 443 else -1
def special (L : List UInt8) : Bool := decide (L = [102, 105, 108, 101]) || decide (portOf L ≠ -1)
/-- The six of them, or none. -/
theorem sorts (L : List UInt8) : L = [102, 116, 112] ∨ L = [104, 116, 116, 112] ∨ L = [119, 115] ∨ L = [104, 116, 116, 112, 115] ∨ L = [119, 115, 115] ∨ L = [102, 105, 108, 101] ∨ (L ≠ [102, 116, 112] ∧ L ≠ [104, 116, 116, 112] ∧ L ≠ [119, 115] ∧ L ≠ [104, 116, 116, 112, 115] ∧ L ≠ [119, 115, 115] ∧ L ≠ [102, 105, 108, 101]) := by
  by_cases h1 : L = [102, 116, 112]
  · exact .inl h1
  by_cases h2 : L = [104, 116, 116, 112]
  · exact .inr (.inl h2)
  by_cases h3 : L = [119, 115]
  · exact .inr (.inr (.inl h3))
  by_cases h4 : L = [104, 116, 116, 112, 115]
  · exact .inr (.inr (.inr (.inl h4)))
  by_cases h5 : L = [119, 115, 115]
  · exact .inr (.inr (.inr (.inr (.inl h5))))
  by_cases h6 : L = [102, 105, 108, 101]
  · exact .inr (.inr (.inr (.inr (.inr (.inl h6)))))
  exact .inr (.inr (.inr (.inr (.inr (.inr ⟨h1, h2, h3, h4, h5, h6⟩)))))
theorem eq_of_list {s : ByteArray} {L : List UInt8} (h : s.data.toList = L) : s = ⟨L.toArray⟩ := by
  obtain ⟨d⟩ := s
  subst h
  rfl
theorem beq_of_ne {s : ByteArray} {L : List UInt8} (h : s.data.toList ≠ L) : (s.toList == L) = false := by
  rw [tl]; simpa using h
set_option maxHeartbeats 2000000 in
theorem default_any (s : ByteArray) (w : World) : Calls Tryd.prog 16 #[.string s] w fun e w' => e = .returned (.int .i64 (portOf s.data.toList)) ∧ w' = w := by
  rcases sorts s.data.toList with h | h | h | h | h | h | ⟨h1, h2, h3, h4, h5, h6⟩
  · obtain rfl := eq_of_list h
    clear h
    go_enter Tryd.func16, Tryd.ntmps16
    go_wp2
    go_ret
    exact ⟨rfl, rfl⟩
  · obtain rfl := eq_of_list h
    clear h
    go_enter Tryd.func16, Tryd.ntmps16
    go_wp2
    go_ret
    exact ⟨rfl, rfl⟩
  · obtain rfl := eq_of_list h
    clear h
    go_enter Tryd.func16, Tryd.ntmps16
    go_wp2
    go_ret
    exact ⟨rfl, rfl⟩
  · obtain rfl := eq_of_list h
    clear h
    go_enter Tryd.func16, Tryd.ntmps16
    go_wp2
    go_ret
    exact ⟨rfl, rfl⟩
  · obtain rfl := eq_of_list h
    clear h
    go_enter Tryd.func16, Tryd.ntmps16
    go_wp2
    go_ret
    exact ⟨rfl, rfl⟩
  · obtain rfl := eq_of_list h
    clear h
    go_enter Tryd.func16, Tryd.ntmps16
    go_wp2
    go_ret
    exact ⟨rfl, rfl⟩
  · have HP : Hid (portOf s.data.toList = -1) := by
      unfold portOf
      show _ = _
      rw [if_neg h1, if_neg (by rintro (h | h); exact h2 h; exact h3 h), if_neg (by rintro (h | h); exact h4 h; exact h5 h)]
    have HS : Hid (special s.data.toList = false) := by
      unfold special
      show _ = _
      rw [HP.out]
      simpa using h6
    replace h1 := beq_of_ne h1
    replace h2 := beq_of_ne h2
    replace h3 := beq_of_ne h3
    replace h4 := beq_of_ne h4
    replace h5 := beq_of_ne h5
    replace h6 := beq_of_ne h6
    go_enter Tryd.func16, Tryd.ntmps16
    go_wp2
    go_ret
    exact ⟨ret_int HP.out.symm, rfl⟩
set_option maxHeartbeats 2000000 in
theorem ref_default (s : ByteArray) (w : World) : Calls Tryd.prog 14 #[.string s] w fun e w' => e = .returned (.tuple #[.int .i64 (portOf s.data.toList), .bool (special s.data.toList)]) ∧ w' = w := by
  rcases sorts s.data.toList with h | h | h | h | h | h | ⟨h1, h2, h3, h4, h5, h6⟩
  · obtain rfl := eq_of_list h
    clear h
    go_enter Tryd.func14, Tryd.ntmps14
    go_wp2
    go_ret2
    exact ⟨rfl, rfl⟩
  · obtain rfl := eq_of_list h
    clear h
    go_enter Tryd.func14, Tryd.ntmps14
    go_wp2
    go_ret2
    exact ⟨rfl, rfl⟩
  · obtain rfl := eq_of_list h
    clear h
    go_enter Tryd.func14, Tryd.ntmps14
    go_wp2
    go_ret2
    exact ⟨rfl, rfl⟩
  · obtain rfl := eq_of_list h
    clear h
    go_enter Tryd.func14, Tryd.ntmps14
    go_wp2
    go_ret2
    exact ⟨rfl, rfl⟩
  · obtain rfl := eq_of_list h
    clear h
    go_enter Tryd.func14, Tryd.ntmps14
    go_wp2
    go_ret2
    exact ⟨rfl, rfl⟩
  · obtain rfl := eq_of_list h
    clear h
    go_enter Tryd.func14, Tryd.ntmps14
    go_wp2
    go_ret2
    exact ⟨rfl, rfl⟩
  · have HP : Hid (portOf s.data.toList = -1) := by
      unfold portOf
      show _ = _
      rw [if_neg h1, if_neg (by rintro (h | h); exact h2 h; exact h3 h), if_neg (by rintro (h | h); exact h4 h; exact h5 h)]
    have HS : Hid (special s.data.toList = false) := by
      unfold special
      show _ = _
      rw [HP.out]
      simpa using h6
    replace h1 := beq_of_ne h1
    replace h2 := beq_of_ne h2
    replace h3 := beq_of_ne h3
    replace h4 := beq_of_ne h4
    replace h5 := beq_of_ne h5
    replace h6 := beq_of_ne h6
    go_enter Tryd.func14, Tryd.ntmps14
    go_wp2
    go_ret2
    exact ⟨ret2 (int_eq HP.out.symm) (bool_eq HS.out.symm), rfl⟩
set_option maxHeartbeats 2000000 in
theorem special_any (s : ByteArray) (w : World) : Calls Tryd.prog 15 #[.string s] w fun e w' => e = .returned (.bool (special s.data.toList)) ∧ w' = w := by
  by_cases h : s.data.toList = [102, 105, 108, 101]
  · obtain rfl := eq_of_list h
    clear h
    go_enter Tryd.func15, Tryd.ntmps15
    go_wp2
    go_ret
    exact ⟨rfl, rfl⟩
  · obtain ⟨p, hp⟩ : ∃ p, p = portOf s.data.toList := ⟨_, rfl⟩
    have HS : Hid (special s.data.toList = decide (p ≠ -1)) := by
      unfold special
      show _ = _
      rw [← hp, decide_eq_false h]
      rfl
    have HP := hid hp
    replace h := beq_of_ne h
    clear hp
    go_enter Tryd.func15, Tryd.ntmps15
    go_wp2_with fail
    refine (default_any _ _).mono ?_
    rintro e w1 ⟨rfl, rfl⟩
    rw [← HP.out]
    by_cases e1 : p = -1
    · subst e1
      go_wp2
      go_ret
      exact ⟨ret_bool HS.out.symm, rfl⟩
    · have q1 : (p == -1) = false := by simpa using e1
      have q2 : (p != -1) = true := by simpa using e1
      have HE : Hid (decide (p ≠ -1) = true) := decide_eq_true e1
      clear e1
      go_wp2
      go_ret
      exact ⟨ret_bool (by rw [HS.out, HE.out]), rfl⟩
set_option maxHeartbeats 2000000 in
theorem sameText_any (a b : Bool) (s t : ByteArray) (w : World) : Calls Tryd.prog 24 #[.bool a, .bool b, .string s, .string t] w fun e w' => e = .returned (.bool (decide (txt a s = txt b t))) ∧ w' = w := by
  have h := beq_str s t
  obtain ⟨o, ho⟩ : ∃ o, o = decide (s.data.toList = t.data.toList) := ⟨_, rfl⟩
  rw [← ho] at h
  have HO := hid ho
  clear ho
  have HE : Hid (decide (txt a s = txt b t) = (a == b && (!a || o))) := by
    show _ = _
    rw [HO.out]
    cases a <;> cases b <;> simp [txt]
  cases a <;> cases b
  all_goals
    go_enter Tryd.func24, Tryd.ntmps24
    go_wp2
    go_ret
    exact ⟨ret_bool (HE.out.symm), rfl⟩
end Go.Proofs.YtofjngfeclmneaaDoor.UrlA
