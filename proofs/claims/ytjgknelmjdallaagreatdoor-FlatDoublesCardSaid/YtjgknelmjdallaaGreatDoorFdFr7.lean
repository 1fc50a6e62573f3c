/-
  FlatDoubles with 7 nodes.
-/
import Derived.Test.YtjgknelmjdallaaGreatDoorFdFw2
import Derived.Test.YtjgknelmjdallaaGreatDoorFdTc
import Derived.Test.YtjgknelmjdallaaGreatDoorFdFk7
import Derived.Test.YtjgknelmjdallaaGreatDoorFdFk7x0
namespace Go.Ax
set_option maxRecDepth 100000
theorem fkP7_ok : fkP7.says (callX E1 2000 19 fkP7.args fkP7.st) = true := by kernel_rfl
noncomputable def fkB7 : Env := withI E1 19 (tab [fkP7] (fun _ _ => .fail))
theorem fkB7_snd : fkB7.Ok ∧ IntrOk fkB7 := ⟨withI_ok e1_ok _ _, withI_intr e1_intr (tab_snd e1_ok e1_intr e1_mix rfl (by kernel_rfl) (fail_snd _ _) _ (fun k hk => by simp only [List.mem_cons, List.not_mem_nil, or_false] at hk; subst hk; exact ⟨2000, fkP7_ok⟩))⟩
noncomputable def fkE7 : Env := levelsF fkB7 171 [fk7_0, fk7_1] 1
theorem fkE7_snd : fkE7.Ok ∧ IntrOk fkE7 := levelsF_ok fkB7_snd.1 fkB7_snd.2 e1_mix rfl (by kernel_rfl) e1_ok e1_intr rfl rfl rfl [fk7_0, fk7_1] (fun k hk => by
    simp only [List.mem_cons, List.not_mem_nil, or_false] at hk
    rcases hk with rfl | rfl
    · exact ⟨2000, fk7_0_ok⟩
    · exact ⟨2000, fk7_1_ok⟩
) 1
theorem fkE7_case : endsTrue 2 ((comp fkE7 103 flatDoublesRest none).c (callX fkE7 2000) (fr1 (7 : Int)) [] St0) = true := by kernel_rfl
end Go.Ax
