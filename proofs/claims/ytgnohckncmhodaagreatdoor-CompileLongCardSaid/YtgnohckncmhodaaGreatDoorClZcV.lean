/-
  CompileLong: its surroundings; walked to where its finitely many cases begin.
-/
import Derived.Test.YtgnohckncmhodaaGreatDoorClZcP0
import Derived.Test.YtgnohckncmhodaaGreatDoorClZcP1
import Derived.Test.YtgnohckncmhodaaGreatDoorClZcP2
import Derived.Test.YtgnohckncmhodaaGreatDoorClZcP3
import Derived.Test.YtgnohckncmhodaaGreatDoorClZcP4
import Derived.Test.YtgnohckncmhodaaGreatDoorClZcP5
import Derived.Test.YtgnohckncmhodaaGreatDoorClZcP6
import Derived.Test.YtgnohckncmhodaaGreatDoorClZcP7
import Derived.Test.YtgnohckncmhodaaGreatDoorClZcP8
import Derived.Test.YtgnohckncmhodaaGreatDoorClZcP9
import Derived.Test.YtgnohckncmhodaaGreatDoorClZcP10
import Derived.Test.YtgnohckncmhodaaGreatDoorClZcP11
set_option linter.unusedVariables false
set_option linter.unusedSimpArgs false
noncomputable section
namespace Go.Ax
open Go.RowKit Go.Proofs
set_option linter.unusedVariables false
set_option linter.unusedSimpArgs false
set_option maxRecDepth 100000
theorem par_tab : ∀ k : Nat, k < 300 → cleanR (callX E2 2000 20 [strS (clT (3800 + k))] St0) = some (parR k)
  | 0, _ => par_c0
  | 1, _ => par_c1
  | 2, _ => par_c2
  | 3, _ => par_c3
  | 4, _ => par_c4
  | 5, _ => par_c5
  | 6, _ => par_c6
  | 7, _ => par_c7
  | 8, _ => par_c8
  | 9, _ => par_c9
  | 10, _ => par_c10
  | 11, _ => par_c11
  | 12, _ => par_c12
  | 13, _ => par_c13
  | 14, _ => par_c14
  | 15, _ => par_c15
  | 16, _ => par_c16
  | 17, _ => par_c17
  | 18, _ => par_c18
  | 19, _ => par_c19
  | 20, _ => par_c20
  | 21, _ => par_c21
  | 22, _ => par_c22
  | 23, _ => par_c23
  | 24, _ => par_c24
  | 25, _ => par_c25
  | 26, _ => par_c26
  | 27, _ => par_c27
  | 28, _ => par_c28
  | 29, _ => par_c29
  | 30, _ => par_c30
  | 31, _ => par_c31
  | 32, _ => par_c32
  | 33, _ => par_c33
  | 34, _ => par_c34
  | 35, _ => par_c35
  | 36, _ => par_c36
  | 37, _ => par_c37
  | 38, _ => par_c38
  | 39, _ => par_c39
  | 40, _ => par_c40
  | 41, _ => par_c41
  | 42, _ => par_c42
  | 43, _ => par_c43
  | 44, _ => par_c44
  | 45, _ => par_c45
  | 46, _ => par_c46
  | 47, _ => par_c47
  | 48, _ => par_c48
  | 49, _ => par_c49
  | 50, _ => par_c50
  | 51, _ => par_c51
  | 52, _ => par_c52
  | 53, _ => par_c53
  | 54, _ => par_c54
  | 55, _ => par_c55
  | 56, _ => par_c56
  | 57, _ => par_c57
  | 58, _ => par_c58
  | 59, _ => par_c59
  | 60, _ => par_c60
  | 61, _ => par_c61
  | 62, _ => par_c62
  | 63, _ => par_c63
  | 64, _ => par_c64
  | 65, _ => par_c65
  | 66, _ => par_c66
  | 67, _ => par_c67
  | 68, _ => par_c68
  | 69, _ => par_c69
  | 70, _ => par_c70
  | 71, _ => par_c71
  | 72, _ => par_c72
  | 73, _ => par_c73
  | 74, _ => par_c74
  | 75, _ => par_c75
  | 76, _ => par_c76
  | 77, _ => par_c77
  | 78, _ => par_c78
  | 79, _ => par_c79
  | 80, _ => par_c80
  | 81, _ => par_c81
  | 82, _ => par_c82
  | 83, _ => par_c83
  | 84, _ => par_c84
  | 85, _ => par_c85
  | 86, _ => par_c86
  | 87, _ => par_c87
  | 88, _ => par_c88
  | 89, _ => par_c89
  | 90, _ => par_c90
  | 91, _ => par_c91
  | 92, _ => par_c92
  | 93, _ => par_c93
  | 94, _ => par_c94
  | 95, _ => par_c95
  | 96, _ => par_c96
  | 97, _ => par_c97
  | 98, _ => par_c98
  | 99, _ => par_c99
  | 100, _ => par_c100
  | 101, _ => par_c101
  | 102, _ => par_c102
  | 103, _ => par_c103
  | 104, _ => par_c104
  | 105, _ => par_c105
  | 106, _ => par_c106
  | 107, _ => par_c107
  | 108, _ => par_c108
  | 109, _ => par_c109
  | 110, _ => par_c110
  | 111, _ => par_c111
  | 112, _ => par_c112
  | 113, _ => par_c113
  | 114, _ => par_c114
  | 115, _ => par_c115
  | 116, _ => par_c116
  | 117, _ => par_c117
  | 118, _ => par_c118
  | 119, _ => par_c119
  | 120, _ => par_c120
  | 121, _ => par_c121
  | 122, _ => par_c122
  | 123, _ => par_c123
  | 124, _ => par_c124
  | 125, _ => par_c125
  | 126, _ => par_c126
  | 127, _ => par_c127
  | 128, _ => par_c128
  | 129, _ => par_c129
  | 130, _ => par_c130
  | 131, _ => par_c131
  | 132, _ => par_c132
  | 133, _ => par_c133
  | 134, _ => par_c134
  | 135, _ => par_c135
  | 136, _ => par_c136
  | 137, _ => par_c137
  | 138, _ => par_c138
  | 139, _ => par_c139
  | 140, _ => par_c140
  | 141, _ => par_c141
  | 142, _ => par_c142
  | 143, _ => par_c143
  | 144, _ => par_c144
  | 145, _ => par_c145
  | 146, _ => par_c146
  | 147, _ => par_c147
  | 148, _ => par_c148
  | 149, _ => par_c149
  | 150, _ => par_c150
  | 151, _ => par_c151
  | 152, _ => par_c152
  | 153, _ => par_c153
  | 154, _ => par_c154
  | 155, _ => par_c155
  | 156, _ => par_c156
  | 157, _ => par_c157
  | 158, _ => par_c158
  | 159, _ => par_c159
  | 160, _ => par_c160
  | 161, _ => par_c161
  | 162, _ => par_c162
  | 163, _ => par_c163
  | 164, _ => par_c164
  | 165, _ => par_c165
  | 166, _ => par_c166
  | 167, _ => par_c167
  | 168, _ => par_c168
  | 169, _ => par_c169
  | 170, _ => par_c170
  | 171, _ => par_c171
  | 172, _ => par_c172
  | 173, _ => par_c173
  | 174, _ => par_c174
  | 175, _ => par_c175
  | 176, _ => par_c176
  | 177, _ => par_c177
  | 178, _ => par_c178
  | 179, _ => par_c179
  | 180, _ => par_c180
  | 181, _ => par_c181
  | 182, _ => par_c182
  | 183, _ => par_c183
  | 184, _ => par_c184
  | 185, _ => par_c185
  | 186, _ => par_c186
  | 187, _ => par_c187
  | 188, _ => par_c188
  | 189, _ => par_c189
  | 190, _ => par_c190
  | 191, _ => par_c191
  | 192, _ => par_c192
  | 193, _ => par_c193
  | 194, _ => par_c194
  | 195, _ => par_c195
  | 196, _ => par_c196
  | 197, _ => par_c197
  | 198, _ => par_c198
  | 199, _ => par_c199
  | 200, _ => par_c200
  | 201, _ => par_c201
  | 202, _ => par_c202
  | 203, _ => par_c203
  | 204, _ => par_c204
  | 205, _ => par_c205
  | 206, _ => par_c206
  | 207, _ => par_c207
  | 208, _ => par_c208
  | 209, _ => par_c209
  | 210, _ => par_c210
  | 211, _ => par_c211
  | 212, _ => par_c212
  | 213, _ => par_c213
  | 214, _ => par_c214
  | 215, _ => par_c215
  | 216, _ => par_c216
  | 217, _ => par_c217
  | 218, _ => par_c218
  | 219, _ => par_c219
  | 220, _ => par_c220
  | 221, _ => par_c221
  | 222, _ => par_c222
  | 223, _ => par_c223
  | 224, _ => par_c224
  | 225, _ => par_c225
  | 226, _ => par_c226
  | 227, _ => par_c227
  | 228, _ => par_c228
  | 229, _ => par_c229
  | 230, _ => par_c230
  | 231, _ => par_c231
  | 232, _ => par_c232
  | 233, _ => par_c233
  | 234, _ => par_c234
  | 235, _ => par_c235
  | 236, _ => par_c236
  | 237, _ => par_c237
  | 238, _ => par_c238
  | 239, _ => par_c239
  | 240, _ => par_c240
  | 241, _ => par_c241
  | 242, _ => par_c242
  | 243, _ => par_c243
  | 244, _ => par_c244
  | 245, _ => par_c245
  | 246, _ => par_c246
  | 247, _ => par_c247
  | 248, _ => par_c248
  | 249, _ => par_c249
  | 250, _ => par_c250
  | 251, _ => par_c251
  | 252, _ => par_c252
  | 253, _ => par_c253
  | 254, _ => par_c254
  | 255, _ => par_c255
  | 256, _ => par_c256
  | 257, _ => par_c257
  | 258, _ => par_c258
  | 259, _ => par_c259
  | 260, _ => par_c260
  | 261, _ => par_c261
  | 262, _ => par_c262
  | 263, _ => par_c263
  | 264, _ => par_c264
  | 265, _ => par_c265
  | 266, _ => par_c266
  | 267, _ => par_c267
  | 268, _ => par_c268
  | 269, _ => par_c269
  | 270, _ => par_c270
  | 271, _ => par_c271
  | 272, _ => par_c272
  | 273, _ => par_c273
  | 274, _ => par_c274
  | 275, _ => par_c275
  | 276, _ => par_c276
  | 277, _ => par_c277
  | 278, _ => par_c278
  | 279, _ => par_c279
  | 280, _ => par_c280
  | 281, _ => par_c281
  | 282, _ => par_c282
  | 283, _ => par_c283
  | 284, _ => par_c284
  | 285, _ => par_c285
  | 286, _ => par_c286
  | 287, _ => par_c287
  | 288, _ => par_c288
  | 289, _ => par_c289
  | 290, _ => par_c290
  | 291, _ => par_c291
  | 292, _ => par_c292
  | 293, _ => par_c293
  | 294, _ => par_c294
  | 295, _ => par_c295
  | 296, _ => par_c296
  | 297, _ => par_c297
  | 298, _ => par_c298
  | 299, _ => par_c299
  | k + 300, h => absurd h (by omega)
def isCl (l : List UInt8) : Bool := Nat.ble 3850 l.length && (Nat.ble l.length 4149 && eqBytes l (clT (l.length - 50)))
/-- What the parser answers of these texts. -/
def parI (args : List AV) (S : St) : R := match args with
  | [.v (.string s)] => Bool.rec .fail (.ret (parR (s.data.toList.length - 3850)) S) (isCl s.data.toList)
  | _ => .fail
theorem par_I (base : Nat) (w0 : World) (args : List AV) (S : St) (hne : parI args S ≠ .fail) (γ : Gh) (w : World) (vs : List Value) (hS : SR base w0 γ S w) (hv : VRL γ w args vs) : Calls Tryz.prog 20 vs.toArray w (RetOk base w0 γ S w (parI args S)) := by
  generalize hr : parI args S = r at hne ⊢
  unfold parI at hr
  split at hr
  case h_2 => exact absurd hr.symm hne
  rename_i s
  cases hb : isCl s.data.toList with
  | false => rw [hb] at hr; exact absurd hr.symm hne
  | true =>
    rw [hb] at hr
    have hr : R.ret (parR (s.data.toList.length - 3850)) S = r := hr
    subst hr
    unfold isCl at hb
    simp only [Bool.and_eq_true, eqBytes_eq, beq_iff_eq] at hb
    obtain ⟨h1, h2, h3⟩ := hb
    have h1 := Nat.le_of_ble_eq_true h1
    have h2 := Nat.le_of_ble_eq_true h2
    have hk := par_tab (s.data.toList.length - 3850) (by omega)
    rw [show 3800 + (s.data.toList.length - 3850) = s.data.toList.length - 50 by omega, ← h3] at hk
    have hs : AV.v (.string s) = strS s.data.toList := rfl
    refine memo (E := E2) e2_ok e2_intr e2_mix rfl hk (by kernel_rfl) hS ?_
    refine ⟨hv.1, fun k h1 h2 => ?_⟩
    match k, h1 with
    | 0, _ => exact (hv.2 0 (by simp) h2).plain rfl
def knownI3 (k : Nat) : Option (List AV → St → R) := Bool.rec (Bool.rec (E2.I k) (some nodI) (Nat.beq k 29)) (some parI) (Nat.beq k 20)
def E3 : Env := { P := Tryz.prog, G := fun _ => none, F := E2.F, I := knownI3, M := rowM }
theorem e3_ok : E3.Ok := ⟨fun k fn h => e2_ok.fn k fn h⟩
theorem e3_mix : E3.P.follows .mixedOrders = true := e2_mix
theorem e3_intr : IntrOk E3 := fun k g hk base w0 args S hne γ w vs hS hg hv => by
  have hk2 : (Bool.rec (Bool.rec (E2.I k) (some nodI) (Nat.beq k 29)) (some parI) (Nat.beq k 20) : Option (List AV → St → R)) = some g := hk
  cases hb : Nat.beq k 20 with
  | true =>
    rw [hb] at hk2
    injection hk2 with hk2; subst hk2
    have : k = 20 := Nat.eq_of_beq_eq_true hb
    subst this
    exact par_I base w0 args S hne γ w vs hS hv
  | false =>
    rw [hb] at hk2
    cases hc : Nat.beq k 29 with
    | true =>
      rw [hc] at hk2
      injection hk2 with hk2; subst hk2
      have : k = 29 := Nat.eq_of_beq_eq_true hc
      subst this
      exact nod_I base w0 args S hne γ w vs hS hv
    | false =>
      rw [hc] at hk2
      exact e2_intr k g hk2 base w0 args S hne γ w vs hS hg hv
/-- From behind the loop on all is well. -/
def GoodCl (k : Nat) : Prop := ∀ (Q : Exit → Act → World → Prop) (act : Act) (w : World), FR Gh0 w (frC k) act.tmps → act.tmps.size = 41 → act.defers = [] →
    (∀ act' w', act'.tmps.size = 41 → act'.defers = [] → act'.tmps[2]? = some (.bool true) → Below w.heap.size w w' → Q .ret act' w') → clTail.wp Tryz.prog Q act w
theorem goodCl_of {k : Nat} (h : endsTrue 2 ((comp E3 41 clTail none).c (callX E3 2000) (frC k) [] St0) = true) : GoodCl k := fun Q act w hf hn hd hQ =>
  codeX_true (c := clTail) (E := E3) e3_ok e3_intr e3_mix rfl (m := 2000) (n := 41) (t := 2) h (Q := Q) hf hn hd hQ
theorem tmp_plain {γ : Gh} {w : World} {f : T AV} {tmps : Array Value} (h : FR γ w f tmps) {t : Nat} {x : Value} (hx : f.get t = some (.v x)) : tmps[t]? = some x := by
  obtain ⟨k1, k2⟩ := h t _ hx
  rw [Array.getElem?_eq_getElem k1]
  have e2 : tmps.getD t undef = tmps[t] := by simp [k1]
  rw [e2] at k2
  generalize tmps[t] = z at k2
  cases k2
  rfl
/-- The frame ahead of the loop. -/
def frB (k : Nat) : T AV := (T.leaf.set 0 (some (intA (50 + k)))).set 3 (some (strS (clT 0)))
theorem frB_ok {k : Nat} {w : World} {tmps : Array Value} (h0 : tmps[0]? = some (.int .i64 ((50 + k : Nat) : Int))) (h1 : tmps[3]? = some (.string ⟨⟨clT 0⟩⟩)) : FR Gh0 w (frB k) tmps := by
  intro t a h
  unfold frB at h
  rw [T.get_set, T.get_set, T.get_leaf] at h
  split at h
  · rename_i e; subst e
    injection h with h; subst h
    obtain ⟨hl, he⟩ := Array.getElem?_eq_some_iff.1 h1
    exact ⟨hl, by simp only [Array.getD_eq_getD_getElem?, h1, Option.getD_some]; exact .v _ rfl⟩
  · split at h
    · rename_i e; subst e
      injection h with h; subst h
      obtain ⟨hl, he⟩ := Array.getElem?_eq_some_iff.1 h0
      exact ⟨hl, by simp only [Array.getD_eq_getD_getElem?, h0, Option.getD_some]; exact .v _ rfl⟩
    · cases h
theorem cl_blk (k : Nat) (hk : k ≤ 5000) : W E1 41 clLoop ⟨frB k, []⟩ St0 (fun r => ∃ f', r = .out .normal ⟨f', []⟩ St0 ∧ f'.get 0 = some (intA (50 + k)) ∧ f'.get 3 = some (strS (clT k))) := by
  have := cl_lp k hk k 0 (frB k) (by omega) (by unfold frB; rw [T.get_set, if_neg (by decide), T.get_set, if_pos rfl]) (by unfold frB; rw [T.get_set, if_pos rfl])
  have hb : clLoop = .block 0 (.loop clBody) := by unfold clLoop clBody; rw [Tryz.f3]
  rw [hb, W_block, W_loop]
  refine this.mono ?_
  rintro r ⟨t', rfl, h0, h3⟩
  exact ⟨t', rfl, h0, h3⟩
theorem cl_rest (k : Nat) (hk : k ≤ 5000) (hc : GoodCl k) (Q : Exit → Act → World → Prop) (act : Act) (w : World) (h0 : act.tmps[0]? = some (.int .i64 ((50 + k : Nat) : Int))) (h1 : act.tmps[3]? = some (.string ⟨⟨clT 0⟩⟩)) (hn : act.tmps.size = 41) (hd : act.defers = [])
    (hQ : ∀ act' w', act'.tmps.size = 41 → act'.defers = [] → act'.tmps[2]? = some (.bool true) → Below w.heap.size w w' → Q .ret act' w') : clRest.wp Tryz.prog Q act w := by
  rw [clRest_is]
  refine wp_seq_k fun K1 g1 => ?_
  refine codeN (c := clLoop) (E := E1) e1_ok e1_intr e1_mix rfl (cl_blk k hk) (frB_ok h0 h1) hn hd ?_
  intro act' w' γ' f' hn' hd' ⟨p0, p3⟩ hf' hb
  refine g1 _ _ ?_
  refine hc Q act' w' (frC_ok (tmp_plain hf' p0) (tmp_plain hf' p3)) hn' hd' ?_
  intro act2 w2 hn2 hd2 ht2 hb2
  exact hQ act2 w2 hn2 hd2 ht2 (hb.trans (hb2.mono hb.size))
theorem compileLong_walk (hc : ∀ k : Nat, k < 300 → GoodCl (3800 + k)) (n : Int) (w : World) : Calls Tryz.prog 3 #[.int .i64 n] w fun x w' => x = .returned (.bool true) ∧ Below w.heap.size w w' := by
  go_enter Tryz.func3, Tryz.ntmps3
  refine wp_seq_k fun K0 h0 => ?_
  have H0 := Lib.hid h0; clear h0
  go_wp2_with fail
  refine H0.out _ _ ?_
  clear H0 K0
  refine wp_seq_k fun K1 h1 => ?_
  have H1 := Lib.hid h1; clear h1
  go_wp2_with fail
  refine (cl_awake w).mono ?_
  rintro x w1 ⟨rfl, hb1⟩
  go_wp2_with fail
  refine H1.out _ _ ?_
  clear H1 K1
  refine wp_seq_k fun K2 h2 => ?_
  have H2 := Lib.hid h2; clear h2
  go_wp2_with fail
  refine H2.out _ _ ?_
  clear H2 K2
  refine wp_seq_k fun K3 h3 => ?_
  have H3 := Lib.hid h3; clear h3
  obtain ⟨k, hk, hz⟩ := and_mod n 65535 300 (by decide) (by decide)
  have hz2 : (bits BinOp.and IntKind.i64 n 65535).tmod 300 = (k : Int) := hz
  have hw : ((3850 : Int) + (k : Int)) = ((50 + (3800 + k) : Nat) : Int) := by push_cast; omega
  go_wp2_with fail
  refine H3.out _ _ ?_
  clear H3 K3
  refine cl_rest (3800 + k) (by omega) (hc k hk) _ _ _ ?_ ?_ rfl rfl ?_
  · show some (Value.int .i64 _) = some (Value.int .i64 _)
    rfl
  · rfl
  intro act' w' hs hd ht hb2
  refine ⟨hd, .bool true, ?_, rfl, hb1.trans (hb2.mono hb1.size)⟩
  have h4 : act'.tmps.getD 2 undef = .bool true := by simp [Array.getD_eq_getD_getElem?, ht]
  simp [results, Tryz.f3, h4, go_sem, ht]
end Go.Ax
