/-
  The tables of this seat's program, for the runner of closed code.
-/
import Derived.Test.YthfefeekfidfoaaSx24
import Derived.KernelRfl
import Derived.Test.YthfefeekfidfoaaProg
namespace Go.Proofs.Ythfefeekfidfoaa
open Go Go.Proofs.Ythfefeekfidfoaa.Sx
def TyOk (p : Nat × Ty) : Prop := (∀ w, (typeInfo p.1).run Try.prog w = .ok p.2.info w) ∧ Try.prog.underlying p.1 = some p.2.desc ∧ (p.2.plain = true → Try.prog.stoodInHeld p.1 = false ∧ Try.prog.eqGuardType Try.prog.depth p.1 = false ∧ ∀ f ∈ (Try.prog.fieldsOf p.1).toList, f.name ≠ "_")
def FnOk (p : Nat × Func) : Prop := Try.prog.funcs[p.1]? = some p.2 ∧ ∀ args w, (callFunc p.1 args).run Try.prog w = .ok (.enter p.1 args) w
theorem cons_mem {α : Type} {p : α → Prop} {a : α} {l : List α} (h : p a) (k : ∀ x ∈ l, p x) : ∀ x ∈ a :: l, p x := fun x hx => by
  rcases List.mem_cons.1 hx with rfl | hx
  · exact h
  · exact k x hx
theorem nil_mem {α : Type} {p : α → Prop} : ∀ x ∈ ([] : List α), p x := fun _ hx => nomatch hx
theorem app_mem {α : Type} {p : α → Prop} {l m : List α} (h : ∀ x ∈ l, p x) (k : ∀ x ∈ m, p x) : ∀ x ∈ l ++ m, p x := fun x hx => (List.mem_append.1 hx).elim (h x) (k x)
theorem plain7 : ∀ f ∈ (Try.prog.fieldsOf 7).toList, f.name ≠ "_" := by
  have e : Try.prog.fieldsOf 7 = match Try.t7.desc with | .struct fs => fs | _ => #[] := by
    unfold Program.fieldsOf; rw [Try.underlying7]; rfl
  rw [e]; decide
theorem plain8 : ∀ f ∈ (Try.prog.fieldsOf 8).toList, f.name ≠ "_" := by
  have e : Try.prog.fieldsOf 8 = match Try.t7.desc with | .struct fs => fs | _ => #[] := by
    unfold Program.fieldsOf; rw [Try.underlying8]; rfl
  rw [e]; decide
noncomputable def tyL0 : List (Nat × Ty) := [(0, ⟨Try.t0, Try.t0.desc, false⟩), (1, ⟨Try.t1, Try.t1.desc, false⟩), (2, ⟨Try.t2, Try.t2.desc, false⟩), (3, ⟨Try.t3, Try.t3.desc, false⟩), (4, ⟨Try.t4, Try.t4.desc, false⟩), (5, ⟨Try.t5, Try.t5.desc, false⟩), (6, ⟨Try.t6, Try.t5.desc, false⟩), (7, ⟨Try.t7, Try.t7.desc, true⟩), (8, ⟨Try.t8, Try.t7.desc, true⟩), (9, ⟨Try.t9, Try.t9.desc, false⟩), (10, ⟨Try.t10, Try.t9.desc, false⟩), (11, ⟨Try.t11, Try.t9.desc, false⟩), (12, ⟨Try.t12, Try.t12.desc, false⟩), (13, ⟨Try.t13, Try.t13.desc, false⟩), (14, ⟨Try.t14, Try.t13.desc, false⟩), (15, ⟨Try.t15, Try.t15.desc, false⟩)]
theorem tyL0_ok : ∀ p ∈ tyL0, TyOk p :=
  cons_mem ⟨Try.typeInfo0, Try.underlying0, fun h => nomatch h⟩ (cons_mem ⟨Try.typeInfo1, Try.underlying1, fun h => nomatch h⟩ (cons_mem ⟨Try.typeInfo2, Try.underlying2, fun h => nomatch h⟩ (cons_mem ⟨Try.typeInfo3, Try.underlying3, fun h => nomatch h⟩ (cons_mem ⟨Try.typeInfo4, Try.underlying4, fun h => nomatch h⟩ (cons_mem ⟨Try.typeInfo5, Try.underlying5, fun h => nomatch h⟩ (cons_mem ⟨Try.typeInfo6, Try.underlying6, fun h => nomatch h⟩ (cons_mem ⟨Try.typeInfo7, Try.underlying7, fun _ => ⟨Try.stoodInHeld7, Try.eqGuardType7, plain7⟩⟩ (cons_mem ⟨Try.typeInfo8, Try.underlying8, fun _ => ⟨Try.stoodInHeld8, Try.eqGuardType8, plain8⟩⟩ (cons_mem ⟨Try.typeInfo9, Try.underlying9, fun h => nomatch h⟩ (cons_mem ⟨Try.typeInfo10, Try.underlying10, fun h => nomatch h⟩ (cons_mem ⟨Try.typeInfo11, Try.underlying11, fun h => nomatch h⟩ (cons_mem ⟨Try.typeInfo12, Try.underlying12, fun h => nomatch h⟩ (cons_mem ⟨Try.typeInfo13, Try.underlying13, fun h => nomatch h⟩ (cons_mem ⟨Try.typeInfo14, Try.underlying14, fun h => nomatch h⟩ (cons_mem ⟨Try.typeInfo15, Try.underlying15, fun h => nomatch h⟩ nil_mem)))))))))))))))
theorem plain23 : ∀ f ∈ (Try.prog.fieldsOf 23).toList, f.name ≠ "_" := by
  have e : Try.prog.fieldsOf 23 = match Try.t23.desc with | .struct fs => fs | _ => #[] := by
    unfold Program.fieldsOf; rw [Try.underlying23]; rfl
  rw [e]; decide
theorem plain24 : ∀ f ∈ (Try.prog.fieldsOf 24).toList, f.name ≠ "_" := by
  have e : Try.prog.fieldsOf 24 = match Try.t23.desc with | .struct fs => fs | _ => #[] := by
    unfold Program.fieldsOf; rw [Try.underlying24]; rfl
  rw [e]; decide
theorem plain26 : ∀ f ∈ (Try.prog.fieldsOf 26).toList, f.name ≠ "_" := by
  have e : Try.prog.fieldsOf 26 = match Try.t26.desc with | .struct fs => fs | _ => #[] := by
    unfold Program.fieldsOf; rw [Try.underlying26]; rfl
  rw [e]; decide
theorem plain27 : ∀ f ∈ (Try.prog.fieldsOf 27).toList, f.name ≠ "_" := by
  have e : Try.prog.fieldsOf 27 = match Try.t26.desc with | .struct fs => fs | _ => #[] := by
    unfold Program.fieldsOf; rw [Try.underlying27]; rfl
  rw [e]; decide
theorem plain29 : ∀ f ∈ (Try.prog.fieldsOf 29).toList, f.name ≠ "_" := by
  have e : Try.prog.fieldsOf 29 = match Try.t29.desc with | .struct fs => fs | _ => #[] := by
    unfold Program.fieldsOf; rw [Try.underlying29]; rfl
  rw [e]; decide
theorem plain30 : ∀ f ∈ (Try.prog.fieldsOf 30).toList, f.name ≠ "_" := by
  have e : Try.prog.fieldsOf 30 = match Try.t29.desc with | .struct fs => fs | _ => #[] := by
    unfold Program.fieldsOf; rw [Try.underlying30]; rfl
  rw [e]; decide
noncomputable def tyL1 : List (Nat × Ty) := [(16, ⟨Try.t16, Try.t16.desc, false⟩), (17, ⟨Try.t17, Try.t17.desc, false⟩), (18, ⟨Try.t18, Try.t18.desc, false⟩), (19, ⟨Try.t19, Try.t18.desc, false⟩), (20, ⟨Try.t20, Try.t20.desc, false⟩), (21, ⟨Try.t21, Try.t21.desc, false⟩), (22, ⟨Try.t22, Try.t22.desc, false⟩), (23, ⟨Try.t23, Try.t23.desc, true⟩), (24, ⟨Try.t24, Try.t23.desc, true⟩), (25, ⟨Try.t25, Try.t25.desc, false⟩), (26, ⟨Try.t26, Try.t26.desc, true⟩), (27, ⟨Try.t27, Try.t26.desc, true⟩), (28, ⟨Try.t28, Try.t28.desc, false⟩), (29, ⟨Try.t29, Try.t29.desc, true⟩), (30, ⟨Try.t30, Try.t29.desc, true⟩), (31, ⟨Try.t31, Try.t31.desc, false⟩)]
theorem tyL1_ok : ∀ p ∈ tyL1, TyOk p :=
  cons_mem ⟨Try.typeInfo16, Try.underlying16, fun h => nomatch h⟩ (cons_mem ⟨Try.typeInfo17, Try.underlying17, fun h => nomatch h⟩ (cons_mem ⟨Try.typeInfo18, Try.underlying18, fun h => nomatch h⟩ (cons_mem ⟨Try.typeInfo19, Try.underlying19, fun h => nomatch h⟩ (cons_mem ⟨Try.typeInfo20, Try.underlying20, fun h => nomatch h⟩ (cons_mem ⟨Try.typeInfo21, Try.underlying21, fun h => nomatch h⟩ (cons_mem ⟨Try.typeInfo22, Try.underlying22, fun h => nomatch h⟩ (cons_mem ⟨Try.typeInfo23, Try.underlying23, fun _ => ⟨Try.stoodInHeld23, Try.eqGuardType23, plain23⟩⟩ (cons_mem ⟨Try.typeInfo24, Try.underlying24, fun _ => ⟨Try.stoodInHeld24, Try.eqGuardType24, plain24⟩⟩ (cons_mem ⟨Try.typeInfo25, Try.underlying25, fun h => nomatch h⟩ (cons_mem ⟨Try.typeInfo26, Try.underlying26, fun _ => ⟨Try.stoodInHeld26, Try.eqGuardType26, plain26⟩⟩ (cons_mem ⟨Try.typeInfo27, Try.underlying27, fun _ => ⟨Try.stoodInHeld27, Try.eqGuardType27, plain27⟩⟩ (cons_mem ⟨Try.typeInfo28, Try.underlying28, fun h => nomatch h⟩ (cons_mem ⟨Try.typeInfo29, Try.underlying29, fun _ => ⟨Try.stoodInHeld29, Try.eqGuardType29, plain29⟩⟩ (cons_mem ⟨Try.typeInfo30, Try.underlying30, fun _ => ⟨Try.stoodInHeld30, Try.eqGuardType30, plain30⟩⟩ (cons_mem ⟨Try.typeInfo31, Try.underlying31, fun h => nomatch h⟩ nil_mem)))))))))))))))
theorem plain33 : ∀ f ∈ (Try.prog.fieldsOf 33).toList, f.name ≠ "_" := by
  have e : Try.prog.fieldsOf 33 = match Try.t33.desc with | .struct fs => fs | _ => #[] := by
    unfold Program.fieldsOf; rw [Try.underlying33]; rfl
  rw [e]; decide
theorem plain34 : ∀ f ∈ (Try.prog.fieldsOf 34).toList, f.name ≠ "_" := by
  have e : Try.prog.fieldsOf 34 = match Try.t33.desc with | .struct fs => fs | _ => #[] := by
    unfold Program.fieldsOf; rw [Try.underlying34]; rfl
  rw [e]; decide
theorem plain38 : ∀ f ∈ (Try.prog.fieldsOf 38).toList, f.name ≠ "_" := by
  have e : Try.prog.fieldsOf 38 = match Try.t38.desc with | .struct fs => fs | _ => #[] := by
    unfold Program.fieldsOf; rw [Try.underlying38]; rfl
  rw [e]; decide
theorem plain39 : ∀ f ∈ (Try.prog.fieldsOf 39).toList, f.name ≠ "_" := by
  have e : Try.prog.fieldsOf 39 = match Try.t38.desc with | .struct fs => fs | _ => #[] := by
    unfold Program.fieldsOf; rw [Try.underlying39]; rfl
  rw [e]; decide
noncomputable def tyL2 : List (Nat × Ty) := [(32, ⟨Try.t32, Try.t32.desc, false⟩), (33, ⟨Try.t33, Try.t33.desc, true⟩), (34, ⟨Try.t34, Try.t33.desc, true⟩), (35, ⟨Try.t35, Try.t35.desc, false⟩), (36, ⟨Try.t36, Try.t36.desc, false⟩), (37, ⟨Try.t37, Try.t37.desc, false⟩), (38, ⟨Try.t38, Try.t38.desc, true⟩), (39, ⟨Try.t39, Try.t38.desc, true⟩), (40, ⟨Try.t40, Try.t40.desc, false⟩), (41, ⟨Try.t41, Try.t41.desc, false⟩), (42, ⟨Try.t42, Try.t42.desc, false⟩), (43, ⟨Try.t43, Try.t43.desc, false⟩), (44, ⟨Try.t44, Try.t44.desc, false⟩), (45, ⟨Try.t45, Try.t45.desc, false⟩), (46, ⟨Try.t46, Try.t46.desc, false⟩), (47, ⟨Try.t47, Try.t47.desc, false⟩)]
theorem tyL2_ok : ∀ p ∈ tyL2, TyOk p :=
  cons_mem ⟨Try.typeInfo32, Try.underlying32, fun h => nomatch h⟩ (cons_mem ⟨Try.typeInfo33, Try.underlying33, fun _ => ⟨Try.stoodInHeld33, Try.eqGuardType33, plain33⟩⟩ (cons_mem ⟨Try.typeInfo34, Try.underlying34, fun _ => ⟨Try.stoodInHeld34, Try.eqGuardType34, plain34⟩⟩ (cons_mem ⟨Try.typeInfo35, Try.underlying35, fun h => nomatch h⟩ (cons_mem ⟨Try.typeInfo36, Try.underlying36, fun h => nomatch h⟩ (cons_mem ⟨Try.typeInfo37, Try.underlying37, fun h => nomatch h⟩ (cons_mem ⟨Try.typeInfo38, Try.underlying38, fun _ => ⟨Try.stoodInHeld38, Try.eqGuardType38, plain38⟩⟩ (cons_mem ⟨Try.typeInfo39, Try.underlying39, fun _ => ⟨Try.stoodInHeld39, Try.eqGuardType39, plain39⟩⟩ (cons_mem ⟨Try.typeInfo40, Try.underlying40, fun h => nomatch h⟩ (cons_mem ⟨Try.typeInfo41, Try.underlying41, fun h => nomatch h⟩ (cons_mem ⟨Try.typeInfo42, Try.underlying42, fun h => nomatch h⟩ (cons_mem ⟨Try.typeInfo43, Try.underlying43, fun h => nomatch h⟩ (cons_mem ⟨Try.typeInfo44, Try.underlying44, fun h => nomatch h⟩ (cons_mem ⟨Try.typeInfo45, Try.underlying45, fun h => nomatch h⟩ (cons_mem ⟨Try.typeInfo46, Try.underlying46, fun h => nomatch h⟩ (cons_mem ⟨Try.typeInfo47, Try.underlying47, fun h => nomatch h⟩ nil_mem)))))))))))))))
theorem plain53 : ∀ f ∈ (Try.prog.fieldsOf 53).toList, f.name ≠ "_" := by
  have e : Try.prog.fieldsOf 53 = match Try.t53.desc with | .struct fs => fs | _ => #[] := by
    unfold Program.fieldsOf; rw [Try.underlying53]; rfl
  rw [e]; decide
theorem plain54 : ∀ f ∈ (Try.prog.fieldsOf 54).toList, f.name ≠ "_" := by
  have e : Try.prog.fieldsOf 54 = match Try.t53.desc with | .struct fs => fs | _ => #[] := by
    unfold Program.fieldsOf; rw [Try.underlying54]; rfl
  rw [e]; decide
theorem plain62 : ∀ f ∈ (Try.prog.fieldsOf 62).toList, f.name ≠ "_" := by
  have e : Try.prog.fieldsOf 62 = match Try.t62.desc with | .struct fs => fs | _ => #[] := by
    unfold Program.fieldsOf; rw [Try.underlying62]; rfl
  rw [e]; decide
theorem plain63 : ∀ f ∈ (Try.prog.fieldsOf 63).toList, f.name ≠ "_" := by
  have e : Try.prog.fieldsOf 63 = match Try.t62.desc with | .struct fs => fs | _ => #[] := by
    unfold Program.fieldsOf; rw [Try.underlying63]; rfl
  rw [e]; decide
noncomputable def tyL3 : List (Nat × Ty) := [(48, ⟨Try.t48, Try.t48.desc, false⟩), (49, ⟨Try.t49, Try.t49.desc, false⟩), (50, ⟨Try.t50, Try.t50.desc, false⟩), (51, ⟨Try.t51, Try.t51.desc, false⟩), (52, ⟨Try.t52, Try.t52.desc, false⟩), (53, ⟨Try.t53, Try.t53.desc, true⟩), (54, ⟨Try.t54, Try.t53.desc, true⟩), (55, ⟨Try.t55, Try.t55.desc, false⟩), (56, ⟨Try.t56, Try.t56.desc, false⟩), (57, ⟨Try.t57, Try.t57.desc, false⟩), (58, ⟨Try.t58, Try.t58.desc, false⟩), (59, ⟨Try.t59, Try.t59.desc, false⟩), (60, ⟨Try.t60, Try.t60.desc, false⟩), (61, ⟨Try.t61, Try.t61.desc, false⟩), (62, ⟨Try.t62, Try.t62.desc, true⟩), (63, ⟨Try.t63, Try.t62.desc, true⟩)]
theorem tyL3_ok : ∀ p ∈ tyL3, TyOk p :=
  cons_mem ⟨Try.typeInfo48, Try.underlying48, fun h => nomatch h⟩ (cons_mem ⟨Try.typeInfo49, Try.underlying49, fun h => nomatch h⟩ (cons_mem ⟨Try.typeInfo50, Try.underlying50, fun h => nomatch h⟩ (cons_mem ⟨Try.typeInfo51, Try.underlying51, fun h => nomatch h⟩ (cons_mem ⟨Try.typeInfo52, Try.underlying52, fun h => nomatch h⟩ (cons_mem ⟨Try.typeInfo53, Try.underlying53, fun _ => ⟨Try.stoodInHeld53, Try.eqGuardType53, plain53⟩⟩ (cons_mem ⟨Try.typeInfo54, Try.underlying54, fun _ => ⟨Try.stoodInHeld54, Try.eqGuardType54, plain54⟩⟩ (cons_mem ⟨Try.typeInfo55, Try.underlying55, fun h => nomatch h⟩ (cons_mem ⟨Try.typeInfo56, Try.underlying56, fun h => nomatch h⟩ (cons_mem ⟨Try.typeInfo57, Try.underlying57, fun h => nomatch h⟩ (cons_mem ⟨Try.typeInfo58, Try.underlying58, fun h => nomatch h⟩ (cons_mem ⟨Try.typeInfo59, Try.underlying59, fun h => nomatch h⟩ (cons_mem ⟨Try.typeInfo60, Try.underlying60, fun h => nomatch h⟩ (cons_mem ⟨Try.typeInfo61, Try.underlying61, fun h => nomatch h⟩ (cons_mem ⟨Try.typeInfo62, Try.underlying62, fun _ => ⟨Try.stoodInHeld62, Try.eqGuardType62, plain62⟩⟩ (cons_mem ⟨Try.typeInfo63, Try.underlying63, fun _ => ⟨Try.stoodInHeld63, Try.eqGuardType63, plain63⟩⟩ nil_mem)))))))))))))))
theorem plain64 : ∀ f ∈ (Try.prog.fieldsOf 64).toList, f.name ≠ "_" := by
  have e : Try.prog.fieldsOf 64 = match Try.t64.desc with | .struct fs => fs | _ => #[] := by
    unfold Program.fieldsOf; rw [Try.underlying64]; rfl
  rw [e]; decide
theorem plain65 : ∀ f ∈ (Try.prog.fieldsOf 65).toList, f.name ≠ "_" := by
  have e : Try.prog.fieldsOf 65 = match Try.t64.desc with | .struct fs => fs | _ => #[] := by
    unfold Program.fieldsOf; rw [Try.underlying65]; rfl
  rw [e]; decide
theorem plain66 : ∀ f ∈ (Try.prog.fieldsOf 66).toList, f.name ≠ "_" := by
  have e : Try.prog.fieldsOf 66 = match Try.t66.desc with | .struct fs => fs | _ => #[] := by
    unfold Program.fieldsOf; rw [Try.underlying66]; rfl
  rw [e]; decide
theorem plain67 : ∀ f ∈ (Try.prog.fieldsOf 67).toList, f.name ≠ "_" := by
  have e : Try.prog.fieldsOf 67 = match Try.t66.desc with | .struct fs => fs | _ => #[] := by
    unfold Program.fieldsOf; rw [Try.underlying67]; rfl
  rw [e]; decide
theorem plain71 : ∀ f ∈ (Try.prog.fieldsOf 71).toList, f.name ≠ "_" := by
  have e : Try.prog.fieldsOf 71 = match Try.t71.desc with | .struct fs => fs | _ => #[] := by
    unfold Program.fieldsOf; rw [Try.underlying71]; rfl
  rw [e]; decide
theorem plain72 : ∀ f ∈ (Try.prog.fieldsOf 72).toList, f.name ≠ "_" := by
  have e : Try.prog.fieldsOf 72 = match Try.t71.desc with | .struct fs => fs | _ => #[] := by
    unfold Program.fieldsOf; rw [Try.underlying72]; rfl
  rw [e]; decide
theorem plain78 : ∀ f ∈ (Try.prog.fieldsOf 78).toList, f.name ≠ "_" := by
  have e : Try.prog.fieldsOf 78 = match Try.t78.desc with | .struct fs => fs | _ => #[] := by
    unfold Program.fieldsOf; rw [Try.underlying78]; rfl
  rw [e]; decide
theorem plain79 : ∀ f ∈ (Try.prog.fieldsOf 79).toList, f.name ≠ "_" := by
  have e : Try.prog.fieldsOf 79 = match Try.t78.desc with | .struct fs => fs | _ => #[] := by
    unfold Program.fieldsOf; rw [Try.underlying79]; rfl
  rw [e]; decide
noncomputable def tyL4 : List (Nat × Ty) := [(64, ⟨Try.t64, Try.t64.desc, true⟩), (65, ⟨Try.t65, Try.t64.desc, true⟩), (66, ⟨Try.t66, Try.t66.desc, true⟩), (67, ⟨Try.t67, Try.t66.desc, true⟩), (68, ⟨Try.t68, Try.t68.desc, false⟩), (69, ⟨Try.t69, Try.t69.desc, false⟩), (70, ⟨Try.t70, Try.t70.desc, false⟩), (71, ⟨Try.t71, Try.t71.desc, true⟩), (72, ⟨Try.t72, Try.t71.desc, true⟩), (73, ⟨Try.t73, Try.t73.desc, false⟩), (74, ⟨Try.t74, Try.t74.desc, false⟩), (75, ⟨Try.t75, Try.t75.desc, false⟩), (76, ⟨Try.t76, Try.t76.desc, false⟩), (77, ⟨Try.t77, Try.t77.desc, false⟩), (78, ⟨Try.t78, Try.t78.desc, true⟩), (79, ⟨Try.t79, Try.t78.desc, true⟩)]
theorem tyL4_ok : ∀ p ∈ tyL4, TyOk p :=
  cons_mem ⟨Try.typeInfo64, Try.underlying64, fun _ => ⟨Try.stoodInHeld64, Try.eqGuardType64, plain64⟩⟩ (cons_mem ⟨Try.typeInfo65, Try.underlying65, fun _ => ⟨Try.stoodInHeld65, Try.eqGuardType65, plain65⟩⟩ (cons_mem ⟨Try.typeInfo66, Try.underlying66, fun _ => ⟨Try.stoodInHeld66, Try.eqGuardType66, plain66⟩⟩ (cons_mem ⟨Try.typeInfo67, Try.underlying67, fun _ => ⟨Try.stoodInHeld67, Try.eqGuardType67, plain67⟩⟩ (cons_mem ⟨Try.typeInfo68, Try.underlying68, fun h => nomatch h⟩ (cons_mem ⟨Try.typeInfo69, Try.underlying69, fun h => nomatch h⟩ (cons_mem ⟨Try.typeInfo70, Try.underlying70, fun h => nomatch h⟩ (cons_mem ⟨Try.typeInfo71, Try.underlying71, fun _ => ⟨Try.stoodInHeld71, Try.eqGuardType71, plain71⟩⟩ (cons_mem ⟨Try.typeInfo72, Try.underlying72, fun _ => ⟨Try.stoodInHeld72, Try.eqGuardType72, plain72⟩⟩ (cons_mem ⟨Try.typeInfo73, Try.underlying73, fun h => nomatch h⟩ (cons_mem ⟨Try.typeInfo74, Try.underlying74, fun h => nomatch h⟩ (cons_mem ⟨Try.typeInfo75, Try.underlying75, fun h => nomatch h⟩ (cons_mem ⟨Try.typeInfo76, Try.underlying76, fun h => nomatch h⟩ (cons_mem ⟨Try.typeInfo77, Try.underlying77, fun h => nomatch h⟩ (cons_mem ⟨Try.typeInfo78, Try.underlying78, fun _ => ⟨Try.stoodInHeld78, Try.eqGuardType78, plain78⟩⟩ (cons_mem ⟨Try.typeInfo79, Try.underlying79, fun _ => ⟨Try.stoodInHeld79, Try.eqGuardType79, plain79⟩⟩ nil_mem)))))))))))))))
noncomputable def tyL5 : List (Nat × Ty) := [(80, ⟨Try.t80, Try.t80.desc, false⟩), (81, ⟨Try.t81, Try.t81.desc, false⟩), (82, ⟨Try.t82, Try.t82.desc, false⟩), (83, ⟨Try.t83, Try.t83.desc, false⟩), (84, ⟨Try.t84, Try.t84.desc, false⟩), (85, ⟨Try.t85, Try.t85.desc, false⟩), (86, ⟨Try.t86, Try.t86.desc, false⟩), (87, ⟨Try.t87, Try.t87.desc, false⟩), (88, ⟨Try.t88, Try.t87.desc, false⟩), (89, ⟨Try.t89, Try.t89.desc, false⟩), (90, ⟨Try.t90, Try.t90.desc, false⟩), (91, ⟨Try.t91, Try.t90.desc, false⟩), (92, ⟨Try.t92, Try.t92.desc, false⟩), (93, ⟨Try.t93, Try.t93.desc, false⟩), (94, ⟨Try.t94, Try.t5.desc, false⟩), (95, ⟨Try.t95, Try.t5.desc, false⟩)]
theorem tyL5_ok : ∀ p ∈ tyL5, TyOk p :=
  cons_mem ⟨Try.typeInfo80, Try.underlying80, fun h => nomatch h⟩ (cons_mem ⟨Try.typeInfo81, Try.underlying81, fun h => nomatch h⟩ (cons_mem ⟨Try.typeInfo82, Try.underlying82, fun h => nomatch h⟩ (cons_mem ⟨Try.typeInfo83, Try.underlying83, fun h => nomatch h⟩ (cons_mem ⟨Try.typeInfo84, Try.underlying84, fun h => nomatch h⟩ (cons_mem ⟨Try.typeInfo85, Try.underlying85, fun h => nomatch h⟩ (cons_mem ⟨Try.typeInfo86, Try.underlying86, fun h => nomatch h⟩ (cons_mem ⟨Try.typeInfo87, Try.underlying87, fun h => nomatch h⟩ (cons_mem ⟨Try.typeInfo88, Try.underlying88, fun h => nomatch h⟩ (cons_mem ⟨Try.typeInfo89, Try.underlying89, fun h => nomatch h⟩ (cons_mem ⟨Try.typeInfo90, Try.underlying90, fun h => nomatch h⟩ (cons_mem ⟨Try.typeInfo91, Try.underlying91, fun h => nomatch h⟩ (cons_mem ⟨Try.typeInfo92, Try.underlying92, fun h => nomatch h⟩ (cons_mem ⟨Try.typeInfo93, Try.underlying93, fun h => nomatch h⟩ (cons_mem ⟨Try.typeInfo94, Try.underlying94, fun h => nomatch h⟩ (cons_mem ⟨Try.typeInfo95, Try.underlying95, fun h => nomatch h⟩ nil_mem)))))))))))))))
theorem plain105 : ∀ f ∈ (Try.prog.fieldsOf 105).toList, f.name ≠ "_" := by
  have e : Try.prog.fieldsOf 105 = match Try.t105.desc with | .struct fs => fs | _ => #[] := by
    unfold Program.fieldsOf; rw [Try.underlying105]; rfl
  rw [e]; decide
theorem plain106 : ∀ f ∈ (Try.prog.fieldsOf 106).toList, f.name ≠ "_" := by
  have e : Try.prog.fieldsOf 106 = match Try.t105.desc with | .struct fs => fs | _ => #[] := by
    unfold Program.fieldsOf; rw [Try.underlying106]; rfl
  rw [e]; decide
theorem plain108 : ∀ f ∈ (Try.prog.fieldsOf 108).toList, f.name ≠ "_" := by
  have e : Try.prog.fieldsOf 108 = match Try.t108.desc with | .struct fs => fs | _ => #[] := by
    unfold Program.fieldsOf; rw [Try.underlying108]; rfl
  rw [e]; decide
theorem plain109 : ∀ f ∈ (Try.prog.fieldsOf 109).toList, f.name ≠ "_" := by
  have e : Try.prog.fieldsOf 109 = match Try.t108.desc with | .struct fs => fs | _ => #[] := by
    unfold Program.fieldsOf; rw [Try.underlying109]; rfl
  rw [e]; decide
noncomputable def tyL6 : List (Nat × Ty) := [(96, ⟨Try.t96, Try.t96.desc, false⟩), (97, ⟨Try.t97, Try.t97.desc, false⟩), (98, ⟨Try.t98, Try.t21.desc, false⟩), (99, ⟨Try.t99, Try.t21.desc, false⟩), (100, ⟨Try.t100, Try.t100.desc, false⟩), (101, ⟨Try.t101, Try.t100.desc, false⟩), (102, ⟨Try.t102, Try.t102.desc, false⟩), (103, ⟨Try.t103, Try.t103.desc, false⟩), (104, ⟨Try.t104, Try.t104.desc, false⟩), (105, ⟨Try.t105, Try.t105.desc, true⟩), (106, ⟨Try.t106, Try.t105.desc, true⟩), (107, ⟨Try.t107, Try.t107.desc, false⟩), (108, ⟨Try.t108, Try.t108.desc, true⟩), (109, ⟨Try.t109, Try.t108.desc, true⟩)]
theorem tyL6_ok : ∀ p ∈ tyL6, TyOk p :=
  cons_mem ⟨Try.typeInfo96, Try.underlying96, fun h => nomatch h⟩ (cons_mem ⟨Try.typeInfo97, Try.underlying97, fun h => nomatch h⟩ (cons_mem ⟨Try.typeInfo98, Try.underlying98, fun h => nomatch h⟩ (cons_mem ⟨Try.typeInfo99, Try.underlying99, fun h => nomatch h⟩ (cons_mem ⟨Try.typeInfo100, Try.underlying100, fun h => nomatch h⟩ (cons_mem ⟨Try.typeInfo101, Try.underlying101, fun h => nomatch h⟩ (cons_mem ⟨Try.typeInfo102, Try.underlying102, fun h => nomatch h⟩ (cons_mem ⟨Try.typeInfo103, Try.underlying103, fun h => nomatch h⟩ (cons_mem ⟨Try.typeInfo104, Try.underlying104, fun h => nomatch h⟩ (cons_mem ⟨Try.typeInfo105, Try.underlying105, fun _ => ⟨Try.stoodInHeld105, Try.eqGuardType105, plain105⟩⟩ (cons_mem ⟨Try.typeInfo106, Try.underlying106, fun _ => ⟨Try.stoodInHeld106, Try.eqGuardType106, plain106⟩⟩ (cons_mem ⟨Try.typeInfo107, Try.underlying107, fun h => nomatch h⟩ (cons_mem ⟨Try.typeInfo108, Try.underlying108, fun _ => ⟨Try.stoodInHeld108, Try.eqGuardType108, plain108⟩⟩ (cons_mem ⟨Try.typeInfo109, Try.underlying109, fun _ => ⟨Try.stoodInHeld109, Try.eqGuardType109, plain109⟩⟩ nil_mem)))))))))))))
noncomputable def tyL : List (Nat × Ty) := tyL0 ++ tyL1 ++ tyL2 ++ tyL3 ++ tyL4 ++ tyL5 ++ tyL6
theorem tyL_ok : ∀ p ∈ tyL, TyOk p := app_mem (app_mem (app_mem (app_mem (app_mem (app_mem (tyL0_ok) tyL1_ok) tyL2_ok) tyL3_ok) tyL4_ok) tyL5_ok) tyL6_ok
noncomputable def fnL0 : List (Nat × Func) := [(2, Try.f2), (3, Try.f3), (4, Try.f4), (5, Try.f5), (6, Try.f6), (7, Try.f7), (8, Try.f8), (9, Try.f9), (10, Try.f10), (11, Try.f11), (12, Try.f12), (13, Try.f13), (14, Try.f14), (15, Try.f15), (16, Try.f16), (17, Try.f17)]
theorem fnL0_ok : ∀ p ∈ fnL0, FnOk p :=
  cons_mem ⟨Try.func2, Try.call2⟩ (cons_mem ⟨Try.func3, Try.call3⟩ (cons_mem ⟨Try.func4, Try.call4⟩ (cons_mem ⟨Try.func5, Try.call5⟩ (cons_mem ⟨Try.func6, Try.call6⟩ (cons_mem ⟨Try.func7, Try.call7⟩ (cons_mem ⟨Try.func8, Try.call8⟩ (cons_mem ⟨Try.func9, Try.call9⟩ (cons_mem ⟨Try.func10, Try.call10⟩ (cons_mem ⟨Try.func11, Try.call11⟩ (cons_mem ⟨Try.func12, Try.call12⟩ (cons_mem ⟨Try.func13, Try.call13⟩ (cons_mem ⟨Try.func14, Try.call14⟩ (cons_mem ⟨Try.func15, Try.call15⟩ (cons_mem ⟨Try.func16, Try.call16⟩ (cons_mem ⟨Try.func17, Try.call17⟩ (nil_mem))))))))))))))))
noncomputable def fnL1 : List (Nat × Func) := [(18, Try.f18), (19, Try.f19), (20, Try.f20), (21, Try.f21), (22, Try.f22), (23, Try.f23), (24, Try.f24), (25, Try.f25), (26, Try.f26), (27, Try.f27), (28, Try.f28), (29, Try.f29), (30, Try.f30), (31, Try.f31), (32, Try.f32), (33, Try.f33)]
theorem fnL1_ok : ∀ p ∈ fnL1, FnOk p :=
  cons_mem ⟨Try.func18, Try.call18⟩ (cons_mem ⟨Try.func19, Try.call19⟩ (cons_mem ⟨Try.func20, Try.call20⟩ (cons_mem ⟨Try.func21, Try.call21⟩ (cons_mem ⟨Try.func22, Try.call22⟩ (cons_mem ⟨Try.func23, Try.call23⟩ (cons_mem ⟨Try.func24, Try.call24⟩ (cons_mem ⟨Try.func25, Try.call25⟩ (cons_mem ⟨Try.func26, Try.call26⟩ (cons_mem ⟨Try.func27, Try.call27⟩ (cons_mem ⟨Try.func28, Try.call28⟩ (cons_mem ⟨Try.func29, Try.call29⟩ (cons_mem ⟨Try.func30, Try.call30⟩ (cons_mem ⟨Try.func31, Try.call31⟩ (cons_mem ⟨Try.func32, Try.call32⟩ (cons_mem ⟨Try.func33, Try.call33⟩ (nil_mem))))))))))))))))
noncomputable def fnL : List (Nat × Func) := fnL0 ++ fnL1
theorem fnL_ok : ∀ p ∈ fnL, FnOk p := app_mem (fnL0_ok) fnL1_ok
noncomputable def tyT : Tr Ty := Tr.ofL tyL
noncomputable def fnT : Tr Func := Tr.ofL fnL
noncomputable def tabW (orc : List Orc) (mmo : List Mmo) (ctr : List Ctr) (ext : List Xo) (src : List Sr) : Tab := ⟨tyT, fnT, orc, mmo, ctr, ext, src⟩
theorem tyT_eq {orc : List Orc} {mmo : List Mmo} {ctr : List Ctr} {ext : List Xo} {src : List Sr} : (tabW orc mmo ctr ext src).ty = Tr.ofL tyL := by
  unfold tabW tyT
  dsimp only
theorem fnT_eq {orc : List Orc} {mmo : List Mmo} {ctr : List Ctr} {ext : List Xo} {src : List Sr} : (tabW orc mmo ctr ext src).fn = Tr.ofL fnL := by
  unfold tabW fnT
  dsimp only
theorem tab_ok {σ : Sg} {orc : List Orc} {mmo : List Mmo} {ctr : List Ctr} {ext : List Xo} {src : List Sr}
    (h1 : ∀ e ∈ orc, flatV e.v = true ∧ ∃ a b, (∀ E, den σ E e.x = .int .i64 a) ∧ (∀ E, den σ E e.y = .int .i64 b) ∧ intB e.op .i64 a b = some (den σ E00 e.v))
    (h2 : ∀ e ∈ mmo, flatV e.v = true ∧ ∃ a b, (∀ E, den σ E e.x = .int .i64 a) ∧ (∀ E, den σ E e.y = .int .i64 b) ∧ den σ E00 e.v = .int .i64 (if e.mx then (if b > a then b else a) else (if b < a then b else a)))
    (h3 : ∀ e ∈ ctr, flatV e.v = true ∧ e.args.all flatV = true ∧ ∀ w, Calls Try.prog e.f (e.args.map (den σ E00)).toArray w fun r w' => r = .returned (den σ E00 e.v) ∧ RowKit.Below w.heap.size w w')
    (h4 : ∀ e ∈ ext, ∀ (ρ : Operand → Value) (o : Oper) (w : World) (E : Env), tagOf o.op = some (e.tag, e.t) → o.op.operands.toList.map ρ = e.vs.map (den σ E) → (∀ p ∈ σ.x, w.heap[p.1]? = some p.2) → (execOp ρ o).run Try.prog w = .ok (.value (den σ E e.v)) w)
    (h5 : ∀ e ∈ src, e.l.length = e.n * e.size ∧ (∀ w, (Builtin.lenOf (σ.v e.i)).run Try.prog w = .ok e.n w) ∧ ∀ E w, (∀ p ∈ σ.x, w.heap[p.1]? = some p.2) → (Builtin.firstCells e.size e.n (σ.v e.i)).run Try.prog w = .ok (e.l.map (den σ E)).toArray w) :
    (tabW orc mmo ctr ext src).Ok σ Try.prog where
  info t y h := (tyL_ok (t, y) (Tr.get_of_eq tyT_eq h)).1
  desc t y h := (tyL_ok (t, y) (Tr.get_of_eq tyT_eq h)).2.1
  plain t y h := (tyL_ok (t, y) (Tr.get_of_eq tyT_eq h)).2.2
  fn f g h := (fnL_ok (f, g) (Tr.get_of_eq fnT_eq h)).1
  call f g h := (fnL_ok (f, g) (Tr.get_of_eq fnT_eq h)).2
  mixed := by kernel_rfl
  orc := h1
  mmo := h2
  ctr := h3
  ext := h4
  src := h5
theorem tab_plain {σ : Sg} : (tabW [] [] [] [] []).Ok σ Try.prog := tab_ok nil_mem nil_mem nil_mem nil_mem nil_mem
end Go.Proofs.Ythfefeekfidfoaa
