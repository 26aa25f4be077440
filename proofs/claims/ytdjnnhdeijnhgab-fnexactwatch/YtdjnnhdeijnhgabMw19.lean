/-
  The code of Quiet and of its law, in pieces.
-/
import Derived.Test.YtdjnnhdeijnhgabMw15
import Derived.Test.YtdjnnhdeijnhgabMw17
namespace Go.Proofs.Ytdjnnhdeijnhgab.Rn
open Go Go.Conc
set_option linter.all false
set_option maxRecDepth 100000

noncomputable def bodyQ : Code := (Try.f19.body).getD .skip
noncomputable def rQ0 : Array Oper := regOps (cA bodyQ)
noncomputable def rQ1 : Array Oper := regOps (cA (cB bodyQ))
noncomputable def rQ2 : Array Oper := regOps (cA (cA (cB (cB bodyQ))))
noncomputable def rQ3 : Array Oper := regOps (cA (cA (cB (cA (cB (cB bodyQ))))))
noncomputable def rQ4 : Array Oper := regOps (cA (cB (cB (cB bodyQ))))
noncomputable def rQ5 : Array Oper := regOps (cA (cB (cB (cB (cB bodyQ)))))
theorem bodyQ_some : Try.f19.body = some bodyQ := by rfl
theorem bodyQ_eq : bodyQ = ((Code.region 0 rQ0 false).seq ((Code.region 1 rQ1 false).seq (((Code.region 2 rQ2 false).seq (Code.cond (.tmp 7) ((Code.region 3 rQ3 false).seq Code.ret) Code.skip)).seq ((Code.region 4 rQ4 false).seq ((Code.region 5 rQ5 false).seq Code.ret))))) := by rfl
theorem szQ0 : rQ0.size = 1 := by rfl
theorem oQ0_0 : ∃ o, rQ0[0]? = some o ∧ o.dst = some 2 ∧ o.guard = none ∧ o.op = .assign (.const (.slice none 0 0)) := ⟨_, rfl, rfl, rfl, rfl⟩
theorem szQ1 : rQ1.size = 3 := by rfl
theorem oQ1_0 : ∃ o, rQ1[0]? = some o ∧ o.dst = some 4 ∧ o.guard = none ∧ o.op = .buildSlice 30 0 #[] := ⟨_, rfl, rfl, rfl, rfl⟩
theorem oQ1_1 : ∃ o, rQ1[1]? = some o ∧ o.dst = some 3 ∧ o.guard = none ∧ o.op = .alloc 30 := ⟨_, rfl, rfl, rfl, rfl⟩
theorem oQ1_2 : ∃ o, rQ1[2]? = some o ∧ o.dst = none ∧ o.guard = none ∧ o.op = .store 30 (.tmp 3) (.tmp 4) := ⟨_, rfl, rfl, rfl, rfl⟩
theorem szQ2 : rQ2.size = 3 := by rfl
theorem oQ2_0 : ∃ o, rQ2[0]? = some o ∧ o.dst = some 5 ∧ o.guard = none ∧ o.op = .move (.tmp 0) := ⟨_, rfl, rfl, rfl, rfl⟩
theorem oQ2_1 : ∃ o, rQ2[1]? = some o ∧ o.dst = some 6 ∧ o.guard = none ∧ o.op = .call { callee := .value (.func 25), args := #[.tmp 5], argTypes := #[30] } := ⟨_, rfl, rfl, rfl, rfl⟩
theorem oQ2_2 : ∃ o, rQ2[2]? = some o ∧ o.dst = some 7 ∧ o.guard = none ∧ o.op = .unOp .not 4 (.tmp 6) := ⟨_, rfl, rfl, rfl, rfl⟩
theorem szQ3 : rQ3.size = 2 := by rfl
theorem oQ3_0 : ∃ o, rQ3[0]? = some o ∧ o.dst = some 8 ∧ o.guard = none ∧ o.op = .load 30 (.tmp 3) := ⟨_, rfl, rfl, rfl, rfl⟩
theorem oQ3_1 : ∃ o, rQ3[1]? = some o ∧ o.dst = some 2 ∧ o.guard = none ∧ o.op = .assign (.tmp 8) := ⟨_, rfl, rfl, rfl, rfl⟩
theorem szQ4 : rQ4.size = 3 := by rfl
theorem oQ4_0 : ∃ o, rQ4[0]? = some o ∧ o.dst = some 9 ∧ o.guard = none ∧ o.op = .move (.tmp 0) := ⟨_, rfl, rfl, rfl, rfl⟩
theorem oQ4_1 : ∃ o, rQ4[1]? = some o ∧ o.dst = some 10 ∧ o.guard = none ∧ o.op = .makeFunc (.func 32) #[] #[.tmp 3] := ⟨_, rfl, rfl, rfl, rfl⟩
theorem oQ4_2 : ∃ o, rQ4[2]? = some o ∧ o.dst = some 11 ∧ o.guard = none ∧ o.op = .call { callee := .value (.func 26), args := #[.tmp 9, .tmp 10], argTypes := #[30, 50] } := ⟨_, rfl, rfl, rfl, rfl⟩
theorem szQ5 : rQ5.size = 2 := by rfl
theorem oQ5_0 : ∃ o, rQ5[0]? = some o ∧ o.dst = some 12 ∧ o.guard = none ∧ o.op = .load 30 (.tmp 3) := ⟨_, rfl, rfl, rfl, rfl⟩
theorem oQ5_1 : ∃ o, rQ5[1]? = some o ∧ o.dst = some 2 ∧ o.guard = none ∧ o.op = .assign (.tmp 12) := ⟨_, rfl, rfl, rfl, rfl⟩

noncomputable def bodyL : Code := (Try.f5.body).getD .skip
noncomputable def rL0 : Array Oper := regOps (cA bodyL)
noncomputable def rL1 : Array Oper := regOps (cA (cB bodyL))
noncomputable def rL2 : Array Oper := regOps (cA (cB (cB bodyL)))
noncomputable def rL3 : Array Oper := regOps (cA (cA (cB (cB (cB bodyL)))))
noncomputable def rL4 : Array Oper := regOps (cA (cA (cB (cA (cB (cB (cB bodyL)))))))
noncomputable def rL5 : Array Oper := regOps (cA (cB (cB (cB (cB bodyL)))))
noncomputable def rL6 : Array Oper := regOps (cA (cB (cB (cB (cB (cB bodyL))))))
noncomputable def rL7 : Array Oper := regOps (cA (cB (cB (cB (cB (cB (cB bodyL)))))))
noncomputable def rL8 : Array Oper := regOps (cA (cA (cB (cB (cB (cB (cB (cB (cB bodyL)))))))))
noncomputable def rL9 : Array Oper := regOps (cA (cA (cB (cA (cB (cB (cB (cB (cB (cB (cB bodyL)))))))))))
noncomputable def rL10 : Array Oper := regOps (cA (cA (cB (cB (cB (cB (cB (cB (cB (cB bodyL))))))))))
noncomputable def rL11 : Array Oper := regOps (cA (cA (cB (cA (cB (cB (cB (cB (cB (cB (cB (cB bodyL))))))))))))
noncomputable def rL12 : Array Oper := regOps (cA (cB (cB (cB (cB (cB (cB (cB (cB (cB bodyL))))))))))
noncomputable def rL13 : Array Oper := regOps (cA (cB (cB (cB (cB (cB (cB (cB (cB (cB (cB bodyL)))))))))))
noncomputable def rL14 : Array Oper := regOps (cA (cA (cB (cB (cB (cB (cB (cB (cB (cB (cB (cB (cB bodyL)))))))))))))
noncomputable def rL15 : Array Oper := regOps (cA (cA (cB (cA (cB (cB (cB (cB (cB (cB (cB (cB (cB (cB (cB bodyL)))))))))))))))
noncomputable def rL16 : Array Oper := regOps (cA (cB (cB (cB (cB (cB (cB (cB (cB (cB (cB (cB (cB bodyL)))))))))))))
noncomputable def rL17 : Array Oper := regOps (cA (cB (cB (cB (cB (cB (cB (cB (cB (cB (cB (cB (cB (cB bodyL))))))))))))))
noncomputable def rL18 : Array Oper := regOps (cA (cB (cB (cB (cB (cB (cB (cB (cB (cB (cB (cB (cB (cB (cB bodyL)))))))))))))))
noncomputable def rL19 : Array Oper := regOps (cA (cB (cB (cB (cB (cB (cB (cB (cB (cB (cB (cB (cB (cB (cB (cB bodyL))))))))))))))))
noncomputable def rL20 : Array Oper := regOps (cA (cA (cB (cB (cB (cB (cB (cB (cB (cB (cB (cB (cB (cB (cB (cB (cB (cB bodyL))))))))))))))))))
noncomputable def rL21 : Array Oper := regOps (cA (cA (cB (cA (cB (cB (cB (cB (cB (cB (cB (cB (cB (cB (cB (cB (cB (cB (cB (cB bodyL))))))))))))))))))))
noncomputable def rL22 : Array Oper := regOps (cA (cA (cB (cB (cB (cB (cB (cB (cB (cB (cB (cB (cB (cB (cB (cB (cB (cB (cB bodyL)))))))))))))))))))
noncomputable def rL23 : Array Oper := regOps (cA (cA (cB (cA (cB (cB (cB (cB (cB (cB (cB (cB (cB (cB (cB (cB (cB (cB (cB (cB (cB bodyL)))))))))))))))))))))
noncomputable def rL24 : Array Oper := regOps (cA (cB (cB (cB (cB (cB (cB (cB (cB (cB (cB (cB (cB (cB (cB (cB (cB (cB (cB bodyL)))))))))))))))))))
noncomputable def rL25 : Array Oper := regOps (cA (cA (cB (cB (cB (cB (cB (cB (cB (cB (cB (cB (cB (cB (cB (cB (cB (cB (cB (cB (cB bodyL)))))))))))))))))))))
noncomputable def rL26 : Array Oper := regOps (cA (cA (cB (cA (cB (cB (cB (cB (cB (cB (cB (cB (cB (cB (cB (cB (cB (cB (cB (cB (cB (cB (cB bodyL)))))))))))))))))))))))
noncomputable def rL27 : Array Oper := regOps (cA (cB (cB (cB (cB (cB (cB (cB (cB (cB (cB (cB (cB (cB (cB (cB (cB (cB (cB (cB (cB bodyL)))))))))))))))))))))
noncomputable def rL28 : Array Oper := regOps (cA (cB (cB (cB (cB (cB (cB (cB (cB (cB (cB (cB (cB (cB (cB (cB (cB (cB (cB (cB (cB (cB bodyL))))))))))))))))))))))
noncomputable def rL29 : Array Oper := regOps (cA (cA (cB (cB (cB (cB (cB (cB (cB (cB (cB (cB (cB (cB (cB (cB (cB (cB (cB (cB (cB (cB (cB (cB bodyL))))))))))))))))))))))))
noncomputable def rL30 : Array Oper := regOps (cA (cA (cB (cA (cB (cB (cB (cB (cB (cB (cB (cB (cB (cB (cB (cB (cB (cB (cB (cB (cB (cB (cB (cB (cB (cB bodyL))))))))))))))))))))))))))
noncomputable def rL31 : Array Oper := regOps (cA (cA (cB (cB (cB (cB (cB (cB (cB (cB (cB (cB (cB (cB (cB (cB (cB (cB (cB (cB (cB (cB (cB (cB (cB bodyL)))))))))))))))))))))))))
noncomputable def rL32 : Array Oper := regOps (cA (cA (cB (cA (cB (cB (cB (cB (cB (cB (cB (cB (cB (cB (cB (cB (cB (cB (cB (cB (cB (cB (cB (cB (cB (cB (cB bodyL)))))))))))))))))))))))))))
noncomputable def rL33 : Array Oper := regOps (cA (cB (cB (cB (cB (cB (cB (cB (cB (cB (cB (cB (cB (cB (cB (cB (cB (cB (cB (cB (cB (cB (cB (cB (cB bodyL)))))))))))))))))))))))))
theorem bodyL_some : Try.f5.body = some bodyL := by rfl
theorem bodyL_eq : bodyL = ((Code.region 0 rL0 false).seq ((Code.region 1 rL1 false).seq ((Code.region 2 rL2 false).seq (((Code.region 3 rL3 false).seq (Code.cond (.tmp 15) ((Code.region 4 rL4 false).seq Code.ret) Code.skip)).seq ((Code.region 5 rL5 false).seq ((Code.region 6 rL6 false).seq ((Code.region 7 rL7 false).seq (((Code.region 8 rL8 false).seq (Code.cond (.tmp 26) ((Code.region 9 rL9 false).seq Code.ret) Code.skip)).seq (((Code.region 10 rL10 false).seq (Code.cond (.tmp 31) ((Code.region 11 rL11 false).seq Code.ret) Code.skip)).seq ((Code.region 12 rL12 false).seq ((Code.region 13 rL13 false).seq (((Code.region 14 rL14 false).seq (Code.cond (.tmp 42) ((Code.region 15 rL15 false).seq Code.ret) Code.skip)).seq ((Code.region 16 rL16 false).seq ((Code.region 17 rL17 false).seq ((Code.region 18 rL18 false).seq ((Code.region 19 rL19 false).seq (((Code.region 20 rL20 false).seq (Code.cond (.tmp 50) ((Code.region 21 rL21 false).seq Code.ret) Code.skip)).seq (((Code.region 22 rL22 false).seq (Code.cond (.tmp 53) ((Code.region 23 rL23 false).seq Code.ret) Code.skip)).seq ((Code.region 24 rL24 false).seq (((Code.region 25 rL25 false).seq (Code.cond (.tmp 60) ((Code.region 26 rL26 false).seq Code.ret) Code.skip)).seq ((Code.region 27 rL27 false).seq ((Code.region 28 rL28 false).seq (((Code.region 29 rL29 false).seq (Code.cond (.tmp 65) ((Code.region 30 rL30 false).seq Code.ret) Code.skip)).seq (((Code.region 31 rL31 false).seq (Code.cond (.tmp 68) ((Code.region 32 rL32 false).seq Code.ret) Code.skip)).seq ((Code.region 33 rL33 false).seq Code.ret))))))))))))))))))))))))) := by rfl
theorem szL0 : rL0.size = 1 := by rfl
theorem oL0_0 : ∃ o, rL0[0]? = some o ∧ o.dst = some 2 ∧ o.guard = none ∧ o.op = .assign (.const (.bool false)) := ⟨_, rfl, rfl, rfl, rfl⟩
theorem szL1 : rL1.size = 1 := by rfl
theorem oL1_0 : ∃ o, rL1[0]? = some o ∧ o.dst = some 3 ∧ o.guard = none ∧ o.op = .assign (.const (.int .i64 1048576)) := ⟨_, rfl, rfl, rfl, rfl⟩
theorem szL2 : rL2.size = 4 := by rfl
theorem oL2_0 : ∃ o, rL2[0]? = some o ∧ o.dst = some 11 ∧ o.guard = none ∧ o.op = .move (.tmp 0) := ⟨_, rfl, rfl, rfl, rfl⟩
theorem oL2_1 : ∃ o, rL2[1]? = some o ∧ o.dst = some 12 ∧ o.guard = none ∧ o.op = .move (.tmp 3) := ⟨_, rfl, rfl, rfl, rfl⟩
theorem oL2_2 : ∃ o, rL2[2]? = some o ∧ o.dst = some 13 ∧ o.guard = none ∧ o.op = .call { callee := .value (.func 6), args := #[.tmp 11, .tmp 12], argTypes := #[24, 3] } := ⟨_, rfl, rfl, rfl, rfl⟩
theorem oL2_3 : ∃ o, rL2[3]? = some o ∧ o.dst = some 3 ∧ o.guard = none ∧ o.op = .assign (.tmp 13) := ⟨_, rfl, rfl, rfl, rfl⟩
theorem szL3 : rL3.size = 2 := by rfl
theorem oL3_0 : ∃ o, rL3[0]? = some o ∧ o.dst = some 14 ∧ o.guard = none ∧ o.op = .move (.tmp 3) := ⟨_, rfl, rfl, rfl, rfl⟩
theorem oL3_1 : ∃ o, rL3[1]? = some o ∧ o.dst = some 15 ∧ o.guard = none ∧ o.op = .binOp .lss 3 (.tmp 14) (.const (.int .i64 0)) 3 := ⟨_, rfl, rfl, rfl, rfl⟩
theorem szL4 : rL4.size = 1 := by rfl
theorem oL4_0 : ∃ o, rL4[0]? = some o ∧ o.dst = some 2 ∧ o.guard = none ∧ o.op = .assign (.const (.bool true)) := ⟨_, rfl, rfl, rfl, rfl⟩
theorem szL5 : rL5.size = 4 := by rfl
theorem oL5_0 : ∃ o, rL5[0]? = some o ∧ o.dst = some 16 ∧ o.guard = none ∧ o.op = .move (.tmp 0) := ⟨_, rfl, rfl, rfl, rfl⟩
theorem oL5_1 : ∃ o, rL5[1]? = some o ∧ o.dst = some 17 ∧ o.guard = none ∧ o.op = .call { callee := .value (.func 9), args := #[.tmp 16], argTypes := #[24] } := ⟨_, rfl, rfl, rfl, rfl⟩
theorem oL5_2 : ∃ o, rL5[2]? = some o ∧ o.dst = some 18 ∧ o.guard = none ∧ o.op = .call { callee := .value (.func 18), args := #[.tmp 17], argTypes := #[30] } := ⟨_, rfl, rfl, rfl, rfl⟩
theorem oL5_3 : ∃ o, rL5[3]? = some o ∧ o.dst = some 4 ∧ o.guard = none ∧ o.op = .assign (.tmp 18) := ⟨_, rfl, rfl, rfl, rfl⟩
theorem szL6 : rL6.size = 3 := by rfl
theorem oL6_0 : ∃ o, rL6[0]? = some o ∧ o.dst = some 19 ∧ o.guard = none ∧ o.op = .move (.tmp 0) := ⟨_, rfl, rfl, rfl, rfl⟩
theorem oL6_1 : ∃ o, rL6[1]? = some o ∧ o.dst = some 20 ∧ o.guard = none ∧ o.op = .call { callee := .value (.func 9), args := #[.tmp 19], argTypes := #[24] } := ⟨_, rfl, rfl, rfl, rfl⟩
theorem oL6_2 : ∃ o, rL6[2]? = some o ∧ o.dst = some 5 ∧ o.guard = none ∧ o.op = .assign (.tmp 20) := ⟨_, rfl, rfl, rfl, rfl⟩
theorem szL7 : rL7.size = 3 := by rfl
theorem oL7_0 : ∃ o, rL7[0]? = some o ∧ o.dst = some 21 ∧ o.guard = none ∧ o.op = .move (.tmp 5) := ⟨_, rfl, rfl, rfl, rfl⟩
theorem oL7_1 : ∃ o, rL7[1]? = some o ∧ o.dst = some 22 ∧ o.guard = none ∧ o.op = .call { callee := .value (.func 19), args := #[.tmp 21], argTypes := #[30] } := ⟨_, rfl, rfl, rfl, rfl⟩
theorem oL7_2 : ∃ o, rL7[2]? = some o ∧ o.dst = some 6 ∧ o.guard = none ∧ o.op = .assign (.tmp 22) := ⟨_, rfl, rfl, rfl, rfl⟩
theorem szL8 : rL8.size = 4 := by rfl
theorem oL8_0 : ∃ o, rL8[0]? = some o ∧ o.dst = some 23 ∧ o.guard = none ∧ o.op = .move (.tmp 6) := ⟨_, rfl, rfl, rfl, rfl⟩
theorem oL8_1 : ∃ o, rL8[1]? = some o ∧ o.dst = some 24 ∧ o.guard = none ∧ o.op = .move (.tmp 4) := ⟨_, rfl, rfl, rfl, rfl⟩
theorem oL8_2 : ∃ o, rL8[2]? = some o ∧ o.dst = some 25 ∧ o.guard = none ∧ o.op = .call { callee := .value (.func 12), args := #[.tmp 23, .tmp 24], argTypes := #[30, 30] } := ⟨_, rfl, rfl, rfl, rfl⟩
theorem oL8_3 : ∃ o, rL8[3]? = some o ∧ o.dst = some 26 ∧ o.guard = none ∧ o.op = .unOp .not 4 (.tmp 25) := ⟨_, rfl, rfl, rfl, rfl⟩
theorem szL9 : rL9.size = 1 := by rfl
theorem oL9_0 : ∃ o, rL9[0]? = some o ∧ o.dst = some 2 ∧ o.guard = none ∧ o.op = .assign (.const (.bool false)) := ⟨_, rfl, rfl, rfl, rfl⟩
theorem szL10 : rL10.size = 5 := by rfl
theorem oL10_0 : ∃ o, rL10[0]? = some o ∧ o.dst = some 27 ∧ o.guard = none ∧ o.op = .move (.tmp 5) := ⟨_, rfl, rfl, rfl, rfl⟩
theorem oL10_1 : ∃ o, rL10[1]? = some o ∧ o.dst = some 28 ∧ o.guard = none ∧ o.op = .move (.tmp 0) := ⟨_, rfl, rfl, rfl, rfl⟩
theorem oL10_2 : ∃ o, rL10[2]? = some o ∧ o.dst = some 29 ∧ o.guard = none ∧ o.op = .call { callee := .value (.func 9), args := #[.tmp 28], argTypes := #[24] } := ⟨_, rfl, rfl, rfl, rfl⟩
theorem oL10_3 : ∃ o, rL10[3]? = some o ∧ o.dst = some 30 ∧ o.guard = none ∧ o.op = .call { callee := .value (.func 12), args := #[.tmp 27, .tmp 29], argTypes := #[30, 30] } := ⟨_, rfl, rfl, rfl, rfl⟩
theorem oL10_4 : ∃ o, rL10[4]? = some o ∧ o.dst = some 31 ∧ o.guard = none ∧ o.op = .unOp .not 4 (.tmp 30) := ⟨_, rfl, rfl, rfl, rfl⟩
theorem szL11 : rL11.size = 1 := by rfl
theorem oL11_0 : ∃ o, rL11[0]? = some o ∧ o.dst = some 2 ∧ o.guard = none ∧ o.op = .assign (.const (.bool false)) := ⟨_, rfl, rfl, rfl, rfl⟩
theorem szL12 : rL12.size = 1 := by rfl
theorem oL12_0 : ∃ o, rL12[0]? = some o ∧ o.dst = some 7 ∧ o.guard = none ∧ o.op = .assign (.const (.int .i64 1)) := ⟨_, rfl, rfl, rfl, rfl⟩
theorem szL13 : rL13.size = 4 := by rfl
theorem oL13_0 : ∃ o, rL13[0]? = some o ∧ o.dst = some 32 ∧ o.guard = none ∧ o.op = .move (.tmp 5) := ⟨_, rfl, rfl, rfl, rfl⟩
theorem oL13_1 : ∃ o, rL13[1]? = some o ∧ o.dst = some 33 ∧ o.guard = none ∧ o.op = .move (.tmp 7) := ⟨_, rfl, rfl, rfl, rfl⟩
theorem oL13_2 : ∃ o, rL13[2]? = some o ∧ o.dst = some 34 ∧ o.guard = none ∧ o.op = .call { callee := .value (.func 13), args := #[.tmp 32, .tmp 33], argTypes := #[30, 3] } := ⟨_, rfl, rfl, rfl, rfl⟩
theorem oL13_3 : ∃ o, rL13[3]? = some o ∧ o.dst = some 7 ∧ o.guard = none ∧ o.op = .assign (.tmp 34) := ⟨_, rfl, rfl, rfl, rfl⟩
theorem szL14 : rL14.size = 8 := by rfl
theorem oL14_0 : ∃ o, rL14[0]? = some o ∧ o.dst = some 35 ∧ o.guard = none ∧ o.op = .move (.tmp 7) := ⟨_, rfl, rfl, rfl, rfl⟩
theorem oL14_1 : ∃ o, rL14[1]? = some o ∧ o.dst = some 36 ∧ o.guard = none ∧ o.op = .binOp .lss 3 (.tmp 35) (.const (.int .i64 0)) 3 := ⟨_, rfl, rfl, rfl, rfl⟩
theorem oL14_2 : ∃ o, rL14[2]? = some o ∧ o.dst = some 37 ∧ o.guard = none ∧ o.op = .move (.tmp 36) := ⟨_, rfl, rfl, rfl, rfl⟩
theorem oL14_3 : ∃ o, rL14[3]? = some o ∧ o.dst = some 38 ∧ o.guard = some (2, false) ∧ o.op = .move (.tmp 6) := ⟨_, rfl, rfl, rfl, rfl⟩
theorem oL14_4 : ∃ o, rL14[4]? = some o ∧ o.dst = some 39 ∧ o.guard = some (2, false) ∧ o.op = .move (.tmp 4) := ⟨_, rfl, rfl, rfl, rfl⟩
theorem oL14_5 : ∃ o, rL14[5]? = some o ∧ o.dst = some 40 ∧ o.guard = some (2, false) ∧ o.op = .call { callee := .value (.func 12), args := #[.tmp 38, .tmp 39], argTypes := #[30, 30] } := ⟨_, rfl, rfl, rfl, rfl⟩
theorem oL14_6 : ∃ o, rL14[6]? = some o ∧ o.dst = some 41 ∧ o.guard = some (2, false) ∧ o.op = .unOp .not 4 (.tmp 40) := ⟨_, rfl, rfl, rfl, rfl⟩
theorem oL14_7 : ∃ o, rL14[7]? = some o ∧ o.dst = some 42 ∧ o.guard = none ∧ o.op = .pick (.tmp 37) (.const (.bool true)) (.tmp 41) := ⟨_, rfl, rfl, rfl, rfl⟩
theorem szL15 : rL15.size = 1 := by rfl
theorem oL15_0 : ∃ o, rL15[0]? = some o ∧ o.dst = some 2 ∧ o.guard = none ∧ o.op = .assign (.const (.bool false)) := ⟨_, rfl, rfl, rfl, rfl⟩
theorem szL16 : rL16.size = 1 := by rfl
theorem oL16_0 : ∃ o, rL16[0]? = some o ∧ o.dst = some 8 ∧ o.guard = none ∧ o.op = .assign (.const (.int .i64 1)) := ⟨_, rfl, rfl, rfl, rfl⟩
theorem szL17 : rL17.size = 4 := by rfl
theorem oL17_0 : ∃ o, rL17[0]? = some o ∧ o.dst = some 43 ∧ o.guard = none ∧ o.op = .move (.tmp 6) := ⟨_, rfl, rfl, rfl, rfl⟩
theorem oL17_1 : ∃ o, rL17[1]? = some o ∧ o.dst = some 44 ∧ o.guard = none ∧ o.op = .move (.tmp 8) := ⟨_, rfl, rfl, rfl, rfl⟩
theorem oL17_2 : ∃ o, rL17[2]? = some o ∧ o.dst = some 45 ∧ o.guard = none ∧ o.op = .call { callee := .value (.func 13), args := #[.tmp 43, .tmp 44], argTypes := #[30, 3] } := ⟨_, rfl, rfl, rfl, rfl⟩
theorem oL17_3 : ∃ o, rL17[3]? = some o ∧ o.dst = some 8 ∧ o.guard = none ∧ o.op = .assign (.tmp 45) := ⟨_, rfl, rfl, rfl, rfl⟩
theorem szL18 : rL18.size = 1 := by rfl
theorem oL18_0 : ∃ o, rL18[0]? = some o ∧ o.dst = some 9 ∧ o.guard = none ∧ o.op = .assign (.const (.int .i64 1)) := ⟨_, rfl, rfl, rfl, rfl⟩
theorem szL19 : rL19.size = 4 := by rfl
theorem oL19_0 : ∃ o, rL19[0]? = some o ∧ o.dst = some 46 ∧ o.guard = none ∧ o.op = .move (.tmp 6) := ⟨_, rfl, rfl, rfl, rfl⟩
theorem oL19_1 : ∃ o, rL19[1]? = some o ∧ o.dst = some 47 ∧ o.guard = none ∧ o.op = .move (.tmp 9) := ⟨_, rfl, rfl, rfl, rfl⟩
theorem oL19_2 : ∃ o, rL19[2]? = some o ∧ o.dst = some 48 ∧ o.guard = none ∧ o.op = .call { callee := .value (.func 20), args := #[.tmp 46, .tmp 47], argTypes := #[30, 3] } := ⟨_, rfl, rfl, rfl, rfl⟩
theorem oL19_3 : ∃ o, rL19[3]? = some o ∧ o.dst = some 9 ∧ o.guard = none ∧ o.op = .assign (.tmp 48) := ⟨_, rfl, rfl, rfl, rfl⟩
theorem szL20 : rL20.size = 2 := by rfl
theorem oL20_0 : ∃ o, rL20[0]? = some o ∧ o.dst = some 49 ∧ o.guard = none ∧ o.op = .move (.tmp 9) := ⟨_, rfl, rfl, rfl, rfl⟩
theorem oL20_1 : ∃ o, rL20[1]? = some o ∧ o.dst = some 50 ∧ o.guard = none ∧ o.op = .binOp .lss 3 (.tmp 49) (.const (.int .i64 0)) 3 := ⟨_, rfl, rfl, rfl, rfl⟩
theorem szL21 : rL21.size = 1 := by rfl
theorem oL21_0 : ∃ o, rL21[0]? = some o ∧ o.dst = some 2 ∧ o.guard = none ∧ o.op = .assign (.const (.bool false)) := ⟨_, rfl, rfl, rfl, rfl⟩
theorem szL22 : rL22.size = 3 := by rfl
theorem oL22_0 : ∃ o, rL22[0]? = some o ∧ o.dst = some 51 ∧ o.guard = none ∧ o.op = .move (.tmp 9) := ⟨_, rfl, rfl, rfl, rfl⟩
theorem oL22_1 : ∃ o, rL22[1]? = some o ∧ o.dst = some 52 ∧ o.guard = none ∧ o.op = .move (.tmp 8) := ⟨_, rfl, rfl, rfl, rfl⟩
theorem oL22_2 : ∃ o, rL22[2]? = some o ∧ o.dst = some 53 ∧ o.guard = none ∧ o.op = .binOp .neq 3 (.tmp 51) (.tmp 52) 3 := ⟨_, rfl, rfl, rfl, rfl⟩
theorem szL23 : rL23.size = 1 := by rfl
theorem oL23_0 : ∃ o, rL23[0]? = some o ∧ o.dst = some 2 ∧ o.guard = none ∧ o.op = .assign (.const (.bool false)) := ⟨_, rfl, rfl, rfl, rfl⟩
theorem szL24 : rL24.size = 4 := by rfl
theorem oL24_0 : ∃ o, rL24[0]? = some o ∧ o.dst = some 54 ∧ o.guard = none ∧ o.op = .move (.tmp 0) := ⟨_, rfl, rfl, rfl, rfl⟩
theorem oL24_1 : ∃ o, rL24[1]? = some o ∧ o.dst = some 55 ∧ o.guard = none ∧ o.op = .call { callee := .value (.func 9), args := #[.tmp 54], argTypes := #[24] } := ⟨_, rfl, rfl, rfl, rfl⟩
theorem oL24_2 : ∃ o, rL24[2]? = some o ∧ o.dst = some 56 ∧ o.guard = none ∧ o.op = .call { callee := .value (.func 19), args := #[.tmp 55], argTypes := #[30] } := ⟨_, rfl, rfl, rfl, rfl⟩
theorem oL24_3 : ∃ o, rL24[3]? = some o ∧ o.dst = some 10 ∧ o.guard = none ∧ o.op = .assign (.tmp 56) := ⟨_, rfl, rfl, rfl, rfl⟩
theorem szL25 : rL25.size = 4 := by rfl
theorem oL25_0 : ∃ o, rL25[0]? = some o ∧ o.dst = some 57 ∧ o.guard = none ∧ o.op = .move (.tmp 10) := ⟨_, rfl, rfl, rfl, rfl⟩
theorem oL25_1 : ∃ o, rL25[1]? = some o ∧ o.dst = some 58 ∧ o.guard = none ∧ o.op = .move (.tmp 4) := ⟨_, rfl, rfl, rfl, rfl⟩
theorem oL25_2 : ∃ o, rL25[2]? = some o ∧ o.dst = some 59 ∧ o.guard = none ∧ o.op = .call { callee := .value (.func 12), args := #[.tmp 57, .tmp 58], argTypes := #[30, 30] } := ⟨_, rfl, rfl, rfl, rfl⟩
theorem oL25_3 : ∃ o, rL25[3]? = some o ∧ o.dst = some 60 ∧ o.guard = none ∧ o.op = .unOp .not 4 (.tmp 59) := ⟨_, rfl, rfl, rfl, rfl⟩
theorem szL26 : rL26.size = 1 := by rfl
theorem oL26_0 : ∃ o, rL26[0]? = some o ∧ o.dst = some 2 ∧ o.guard = none ∧ o.op = .assign (.const (.bool false)) := ⟨_, rfl, rfl, rfl, rfl⟩
theorem szL27 : rL27.size = 1 := by rfl
theorem oL27_0 : ∃ o, rL27[0]? = some o ∧ o.dst = some 9 ∧ o.guard = none ∧ o.op = .assign (.const (.int .i64 1)) := ⟨_, rfl, rfl, rfl, rfl⟩
theorem szL28 : rL28.size = 4 := by rfl
theorem oL28_0 : ∃ o, rL28[0]? = some o ∧ o.dst = some 61 ∧ o.guard = none ∧ o.op = .move (.tmp 6) := ⟨_, rfl, rfl, rfl, rfl⟩
theorem oL28_1 : ∃ o, rL28[1]? = some o ∧ o.dst = some 62 ∧ o.guard = none ∧ o.op = .move (.tmp 9) := ⟨_, rfl, rfl, rfl, rfl⟩
theorem oL28_2 : ∃ o, rL28[2]? = some o ∧ o.dst = some 63 ∧ o.guard = none ∧ o.op = .call { callee := .value (.func 20), args := #[.tmp 61, .tmp 62], argTypes := #[30, 3] } := ⟨_, rfl, rfl, rfl, rfl⟩
theorem oL28_3 : ∃ o, rL28[3]? = some o ∧ o.dst = some 9 ∧ o.guard = none ∧ o.op = .assign (.tmp 63) := ⟨_, rfl, rfl, rfl, rfl⟩
theorem szL29 : rL29.size = 2 := by rfl
theorem oL29_0 : ∃ o, rL29[0]? = some o ∧ o.dst = some 64 ∧ o.guard = none ∧ o.op = .move (.tmp 9) := ⟨_, rfl, rfl, rfl, rfl⟩
theorem oL29_1 : ∃ o, rL29[1]? = some o ∧ o.dst = some 65 ∧ o.guard = none ∧ o.op = .binOp .lss 3 (.tmp 64) (.const (.int .i64 0)) 3 := ⟨_, rfl, rfl, rfl, rfl⟩
theorem szL30 : rL30.size = 1 := by rfl
theorem oL30_0 : ∃ o, rL30[0]? = some o ∧ o.dst = some 2 ∧ o.guard = none ∧ o.op = .assign (.const (.bool false)) := ⟨_, rfl, rfl, rfl, rfl⟩
theorem szL31 : rL31.size = 3 := by rfl
theorem oL31_0 : ∃ o, rL31[0]? = some o ∧ o.dst = some 66 ∧ o.guard = none ∧ o.op = .move (.tmp 9) := ⟨_, rfl, rfl, rfl, rfl⟩
theorem oL31_1 : ∃ o, rL31[1]? = some o ∧ o.dst = some 67 ∧ o.guard = none ∧ o.op = .move (.tmp 8) := ⟨_, rfl, rfl, rfl, rfl⟩
theorem oL31_2 : ∃ o, rL31[2]? = some o ∧ o.dst = some 68 ∧ o.guard = none ∧ o.op = .binOp .neq 3 (.tmp 66) (.tmp 67) 3 := ⟨_, rfl, rfl, rfl, rfl⟩
theorem szL32 : rL32.size = 1 := by rfl
theorem oL32_0 : ∃ o, rL32[0]? = some o ∧ o.dst = some 2 ∧ o.guard = none ∧ o.op = .assign (.const (.bool false)) := ⟨_, rfl, rfl, rfl, rfl⟩
theorem szL33 : rL33.size = 1 := by rfl
theorem oL33_0 : ∃ o, rL33[0]? = some o ∧ o.dst = some 2 ∧ o.guard = none ∧ o.op = .assign (.const (.bool true)) := ⟨_, rfl, rfl, rfl, rfl⟩

end Go.Proofs.Ytdjnnhdeijnhgab.Rn

/-
  forEachTick's round: the tick is handed to the closure.
-/
namespace Go.Proofs.Ytdjnnhdeijnhgab.Rn
open Go Go.Conc Va
set_option linter.all false
set_option maxRecDepth 20000

/-- A closure that a tick is handed to: entered as a call of this function. -/
structure Clo (fc : Nat) (caps : Array Value) : Prop where
  run : ∀ (x : Tk) (w : World), (invoke (.fn (.func fc) caps) #[aTk x]).run Try.prog w = .ok (.enter fc (#[aTk x] ++ caps)) w
  ev : ∀ (x : Tk) (w : World), (invoke (.fn (.func fc) caps) #[aTk x]).events Try.prog w #[] = #[]
theorem aTk_low (x : Tk) : Low 0 (aTk x) := fun f g _ => by
  unfold aTk
  simp
theorem Calls.tape {f : Nat} {args : Array Value} {w : World} {T : Tape} {n : Nat} {R : Ending → World → Prop} (h : Calls Try.prog f args { w with tape := T, drawn := n } R) : Calls Try.prog f args { w with tape := T, drawn := n } R := h
section
variable {A : Nat → Prop} {I : St → Prop} {R : (Nat → Prop) → World → World → (Nat → Prop) → Prop} {Q : Goroutine → World → Prop}
variable {base ch fc : Nat} {caps : Array Value} {cs : List Frame} {tk : Value} {J J' : World → Prop}
theorem handed {r : Nat} {x : Tk} {t2 t3 t7 t8 t9 t10 t11 t12 t13 t14 t15 t16 t18 t19 t20 : Value} (hK : Comp Try.prog I R) (hP : Prg Try.prog A) (hC : ∀ f, Closed Try.prog f) (hX : ∀ Dd f, Fix Try.prog Dd f) (hA : A fc) (hT : Tells base J) (hT' : Tells base J') (hclo : Clo fc caps) (hcaps : ∀ v ∈ caps, Low base v)
    (hcall : ∀ w, J w → base ≤ w.heap.size → Calls Try.prog fc (#[aTk x] ++ caps) w fun e w' => e = .returned (.tuple #[]) ∧ J' w')
    (k : ∀ t5 t6 t7 t8 t9 t10 t11 t12 t13 t14 t15 t16 t17 t18 t19 t20, Cj Try.prog I (G (bF.at (aF tk (.func (.func fc) #[] caps) ch t2 t3 t5 t6 t7 t8 t9 t10 t11 t12 t13 t14 t15 t16 t17 t18 t19 t20) (.code LcF :: KF)) cs) (JW base J') Q) :
    Cj Try.prog I (G (bF.at (aF tk (.func (.func fc) #[] caps) ch t2 t3 (.pointer (some ⟨r, 0, none⟩)) (.bool true) t7 t8 t9 t10 t11 t12 t13 t14 t15 t16 (.bool false) t18 t19 t20) (.code (.cond (.tmp 17) .ret .skip) :: .code (.region 6 rF6 false) :: K4)) cs) (JB base J r #[.int .i64 x.v, .bool x.k, .bool x.h]) Q := by
  have hbe : bF.kind ≠ .early := by unfold bF; simp
  refine Cj.ctl hK calm_JB (fun w => stepG_cond (t := false) rfl) ?_
  rw [if_neg (by simp)]
  refine Cj.ctl hK calm_JB (fun w => stepG_skip) ?_
  refine Cj.ctl hK calm_JB (fun w => stepG_region) ?_
  rw [szF6]
  refine Cj.ctl hK calm_JB (fun w => st_move oF60 hbe (v := .func (.func fc) #[] caps) rfl) ?_
  rw [putF18]
  refine Cj.unbox (x := x) (t := 5) hK oF61 hbe rfl ?_
  rw [putF19]
  obtain ⟨o, h1, h2, h3, h4⟩ := oF62
  refine Cj.ctl hK calm_JB (fr' := Frame.enter Try.prog fc (#[aTk x] ++ caps) .normal) (cs' := bF.at (aF tk (.func (.func fc) #[] caps) ch t2 t3 (.pointer (some ⟨r, 0, none⟩)) (.bool true) t7 t8 t9 t10 t11 t12 t13 t14 t15 t16 (.bool false) (.func (.func fc) #[] caps) (aTk x) t20) (.inRegion rF6 [2] :: K4) :: cs) (fun w => ?_) ?_
  · have hr : (execOp (aF tk (.func (.func fc) #[] caps) ch t2 t3 (.pointer (some ⟨r, 0, none⟩)) (.bool true) t7 t8 t9 t10 t11 t12 t13 t14 t15 t16 (.bool false) (.func (.func fc) #[] caps) (aTk x) t20).eval o).run Try.prog w = .ok (.enter fc (#[aTk x] ++ caps)) w := by
      unfold execOp
      simp only [h4]
      simp [resolve, Deferred.ofValue, Act.eval, aF, hclo.run x w]
    have he : (execOp (aF tk (.func (.func fc) #[] caps) ch t2 t3 (.pointer (some ⟨r, 0, none⟩)) (.bool true) t7 t8 t9 t10 t11 t12 t13 t14 t15 t16 (.bool false) (.func (.func fc) #[] caps) (aTk x) t20).eval o).events Try.prog w #[] = #[] := by
      unfold execOp
      simp only [h4]
      simp [resolve, Deferred.ofValue, Act.eval, aF, hclo.ev x w]
    refine (stepG_enter h1 (by simp [Region.wanted, h3]) hbe hr).trans ?_
    unfold listed
    rw [he, seen_none]
  intro wl hj
  have hj2 := JB.told hT hj
  refine Cp.call (base := base) (J := J') (v0 := .tuple #[]) hK hP hC hX hA (fun v hv => ?_) hj2.2 hT' (fun f g _ => by simp) (fun T => ?_) fun wv hjv hle => ?_
  · rcases Array.mem_append.1 hv with hv | hv
    · simp only [List.mem_toArray, List.mem_singleton] at hv
      subst hv
      exact (aTk_low x).mono (Nat.zero_le _)
    · exact (hcaps v hv).mono hj2.2
  · refine hcall _ (hT.emb idF wl _ (fun _ _ => rfl) (fun _ h _ => h) ⟨fun b cs e fz q => ?_, fun b q => q⟩ hj2.1) hj2.2
    rw [rVs_id]
    exact q
  · rw [fin_at h1, h2, putF20]
    have hc := calm_JW hT'
    have key : Cj Try.prog I (G (bF.at (aF tk (.func (.func fc) #[] caps) ch t2 t3 (.pointer (some ⟨r, 0, none⟩)) (.bool true) t7 t8 t9 t10 t11 t12 t13 t14 t15 t16 (.bool false) (.func (.func fc) #[] caps) (aTk x) (.tuple #[])) (.inRegion rF6 [] :: K4)) cs) (JW base J') Q := by
      refine Cj.ctl hK hc (fun w => stepG_region_end) ?_
      refine Cj.ctl hK hc (fun w => stepG_inBlock) ?_
      refine Cj.ctl hK hc (fun w => stepG_inBlock) ?_
      refine Cj.ctl hK hc (fun w => stepG_inLoop) ?_
      exact k _ _ _ _ _ _ _ _ _ _ _ _ _ _ _ _
    exact key wv ⟨hjv, Nat.le_trans hj2.2 hle⟩
/-- No more: it returns. -/
theorem ended {r : Nat} {x : Tk} {dv t2 t3 t5 t6 t7 t8 t9 t10 t11 t12 t13 t14 t15 t16 t18 t19 t20 : Value} {c : Frame} {cc : List Frame} (hK : Comp Try.prog I R) (hT : Tells base J)
    (k : Cj Try.prog I (G (c.finish (.tuple #[])) cc) (JW base J) Q) :
    Cj Try.prog I (G (bF.at (aF tk dv ch t2 t3 t5 t6 t7 t8 t9 t10 t11 t12 t13 t14 t15 t16 (.bool true) t18 t19 t20) (.code (.cond (.tmp 17) .ret .skip) :: .code (.region 6 rF6 false) :: K4)) (c :: cc)) (JB base J r #[.int .i64 x.v, .bool x.k, .bool x.h]) Q := by
  refine Cj.ctl hK calm_JB (fun w => stepG_cond (t := true) rfl) ?_
  rw [if_pos rfl]
  have hf : Try.prog.funcs[26]? = some Try.f26 := Try.func26
  refine Cj.ctl hK calm_JB (fr' := { bF.at (aF tk dv ch t2 t3 t5 t6 t7 t8 t9 t10 t11 t12 t13 t14 t15 t16 (.bool true) t18 t19 t20) (.code .ret :: .code (.region 6 rF6 false) :: K4) with mode := .returning }) (cs' := c :: cc) (fun w => ?_) ?_
  · simp [G, stepG, stepG.exec, Frame.at]
  refine Cj.ctl hK calm_JB (fr' := c.finish (.tuple #[])) (cs' := cc) (fun w => ?_) fun wl hj => k wl (JB.told hT hj)
  have hr : ∀ tm : Array Value, (results Try.f26 tm).run Try.prog w = .ok (.tuple #[]) w := fun tm => results_none (fn := Try.f26) rfl tm Try.prog w
  have he : ∀ tm : Array Value, (results Try.f26 tm).events Try.prog w #[] = #[] := fun tm => events_results_none (fn := Try.f26) rfl tm #[]
  exact stepG_leave (b := bF) rfl rfl hf (hr _) (he _)
end
end Go.Proofs.Ytdjnnhdeijnhgab.Rn
