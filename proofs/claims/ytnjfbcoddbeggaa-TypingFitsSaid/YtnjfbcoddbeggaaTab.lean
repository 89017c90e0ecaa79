/-
  The tables of this seat's program, for the runner of closed code.
-/
import Derived.Test.YtnjfbcoddbeggaaSx24
import Derived.KernelRfl
import Derived.Test.YtnjfbcoddbeggaaProg
namespace Go.Proofs.Ytnjfbcoddbeggaa
open Go Go.Proofs.Ytnjfbcoddbeggaa.Sx
def TyOk (p : Nat × Ty) : Prop := (∀ w, (typeInfo p.1).run Try.prog w = .ok p.2.info w) ∧ Try.prog.underlying p.1 = some p.2.desc ∧ (p.2.plain = true → Try.prog.stoodInHeld p.1 = false ∧ Try.prog.eqGuardType Try.prog.depth p.1 = false ∧ ∀ f ∈ (Try.prog.fieldsOf p.1).toList, f.name ≠ "_")
def FnOk (p : Nat × Func) : Prop := Try.prog.funcs[p.1]? = some p.2 ∧ ∀ args w, (callFunc p.1 args).run Try.prog w = .ok (.enter p.1 args) w
theorem cons_mem {α : Type} {p : α → Prop} {a : α} {l : List α} (h : p a) (k : ∀ x ∈ l, p x) : ∀ x ∈ a :: l, p x := fun x hx => by
  rcases List.mem_cons.1 hx with rfl | hx
  · exact h
  · exact k x hx
theorem nil_mem {α : Type} {p : α → Prop} : ∀ x ∈ ([] : List α), p x := fun _ hx => nomatch hx
theorem app_mem {α : Type} {p : α → Prop} {l m : List α} (h : ∀ x ∈ l, p x) (k : ∀ x ∈ m, p x) : ∀ x ∈ l ++ m, p x := fun x hx => (List.mem_append.1 hx).elim (h x) (k x)
theorem plain7 : ∀ f ∈ (Try.prog.fieldsOf 7).toList, f.name ≠ "_" := by
  have e : Try.prog.fieldsOf 7 = match Try.t7.desc with | .struct fs => fs | _ => #[] := by
    unfold Program.fieldsOf; rw [Try.underlying7]; rfl
  rw [e]; decide
theorem plain8 : ∀ f ∈ (Try.prog.fieldsOf 8).toList, f.name ≠ "_" := by
  have e : Try.prog.fieldsOf 8 = match Try.t7.desc with | .struct fs => fs | _ => #[] := by
    unfold Program.fieldsOf; rw [Try.underlying8]; rfl
  rw [e]; decide
noncomputable def tyL0 : List (Nat × Ty) := [(0, ⟨Try.t0, Try.t0.desc, false⟩), (1, ⟨Try.t1, Try.t1.desc, false⟩), (2, ⟨Try.t2, Try.t2.desc, false⟩), (3, ⟨Try.t3, Try.t3.desc, false⟩), (4, ⟨Try.t4, Try.t4.desc, false⟩), (5, ⟨Try.t5, Try.t5.desc, false⟩), (6, ⟨Try.t6, Try.t5.desc, false⟩), (7, ⟨Try.t7, Try.t7.desc, true⟩), (8, ⟨Try.t8, Try.t7.desc, true⟩), (9, ⟨Try.t9, Try.t9.desc, false⟩), (10, ⟨Try.t10, Try.t9.desc, false⟩), (11, ⟨Try.t11, Try.t9.desc, false⟩), (12, ⟨Try.t12, Try.t12.desc, false⟩), (13, ⟨Try.t13, Try.t13.desc, false⟩), (14, ⟨Try.t14, Try.t13.desc, false⟩), (15, ⟨Try.t15, Try.t15.desc, false⟩)]
theorem tyL0_ok : ∀ p ∈ tyL0, TyOk p :=
  cons_mem ⟨Try.typeInfo0, Try.underlying0, fun h => nomatch h⟩ (cons_mem ⟨Try.typeInfo1, Try.underlying1, fun h => nomatch h⟩ (cons_mem ⟨Try.typeInfo2, Try.underlying2, fun h => nomatch h⟩ (cons_mem ⟨Try.typeInfo3, Try.underlying3, fun h => nomatch h⟩ (cons_mem ⟨Try.typeInfo4, Try.underlying4, fun h => nomatch h⟩ (cons_mem ⟨Try.typeInfo5, Try.underlying5, fun h => nomatch h⟩ (cons_mem ⟨Try.typeInfo6, Try.underlying6, fun h => nomatch h⟩ (cons_mem ⟨Try.typeInfo7, Try.underlying7, fun _ => ⟨Try.stoodInHeld7, Try.eqGuardType7, plain7⟩⟩ (cons_mem ⟨Try.typeInfo8, Try.underlying8, fun _ => ⟨Try.stoodInHeld8, Try.eqGuardType8, plain8⟩⟩ (cons_mem ⟨Try.typeInfo9, Try.underlying9, fun h => nomatch h⟩ (cons_mem ⟨Try.typeInfo10, Try.underlying10, fun h => nomatch h⟩ (cons_mem ⟨Try.typeInfo11, Try.underlying11, fun h => nomatch h⟩ (cons_mem ⟨Try.typeInfo12, Try.underlying12, fun h => nomatch h⟩ (cons_mem ⟨Try.typeInfo13, Try.underlying13, fun h => nomatch h⟩ (cons_mem ⟨Try.typeInfo14, Try.underlying14, fun h => nomatch h⟩ (cons_mem ⟨Try.typeInfo15, Try.underlying15, fun h => nomatch h⟩ nil_mem)))))))))))))))
theorem plain23 : ∀ f ∈ (Try.prog.fieldsOf 23).toList, f.name ≠ "_" := by
  have e : Try.prog.fieldsOf 23 = match Try.t23.desc with | .struct fs => fs | _ => #[] := by
    unfold Program.fieldsOf; rw [Try.underlying23]; rfl
  rw [e]; decide
theorem plain24 : ∀ f ∈ (Try.prog.fieldsOf 24).toList, f.name ≠ "_" := by
  have e : Try.prog.fieldsOf 24 = match Try.t23.desc with | .struct fs => fs | _ => #[] := by
    unfold Program.fieldsOf; rw [Try.underlying24]; rfl
  rw [e]; decide
theorem plain28 : ∀ f ∈ (Try.prog.fieldsOf 28).toList, f.name ≠ "_" := by
  have e : Try.prog.fieldsOf 28 = match Try.t28.desc with | .struct fs => fs | _ => #[] := by
    unfold Program.fieldsOf; rw [Try.underlying28]; rfl
  rw [e]; decide
theorem plain29 : ∀ f ∈ (Try.prog.fieldsOf 29).toList, f.name ≠ "_" := by
  have e : Try.prog.fieldsOf 29 = match Try.t28.desc with | .struct fs => fs | _ => #[] := by
    unfold Program.fieldsOf; rw [Try.underlying29]; rfl
  rw [e]; decide
noncomputable def tyL1 : List (Nat × Ty) := [(16, ⟨Try.t16, Try.t16.desc, false⟩), (17, ⟨Try.t17, Try.t17.desc, false⟩), (18, ⟨Try.t18, Try.t18.desc, false⟩), (19, ⟨Try.t19, Try.t18.desc, false⟩), (20, ⟨Try.t20, Try.t20.desc, false⟩), (21, ⟨Try.t21, Try.t21.desc, false⟩), (22, ⟨Try.t22, Try.t22.desc, false⟩), (23, ⟨Try.t23, Try.t23.desc, true⟩), (24, ⟨Try.t24, Try.t23.desc, true⟩), (25, ⟨Try.t25, Try.t25.desc, false⟩), (26, ⟨Try.t26, Try.t26.desc, false⟩), (27, ⟨Try.t27, Try.t27.desc, false⟩), (28, ⟨Try.t28, Try.t28.desc, true⟩), (29, ⟨Try.t29, Try.t28.desc, true⟩), (30, ⟨Try.t30, Try.t30.desc, false⟩), (31, ⟨Try.t31, Try.t31.desc, false⟩)]
theorem tyL1_ok : ∀ p ∈ tyL1, TyOk p :=
  cons_mem ⟨Try.typeInfo16, Try.underlying16, fun h => nomatch h⟩ (cons_mem ⟨Try.typeInfo17, Try.underlying17, fun h => nomatch h⟩ (cons_mem ⟨Try.typeInfo18, Try.underlying18, fun h => nomatch h⟩ (cons_mem ⟨Try.typeInfo19, Try.underlying19, fun h => nomatch h⟩ (cons_mem ⟨Try.typeInfo20, Try.underlying20, fun h => nomatch h⟩ (cons_mem ⟨Try.typeInfo21, Try.underlying21, fun h => nomatch h⟩ (cons_mem ⟨Try.typeInfo22, Try.underlying22, fun h => nomatch h⟩ (cons_mem ⟨Try.typeInfo23, Try.underlying23, fun _ => ⟨Try.stoodInHeld23, Try.eqGuardType23, plain23⟩⟩ (cons_mem ⟨Try.typeInfo24, Try.underlying24, fun _ => ⟨Try.stoodInHeld24, Try.eqGuardType24, plain24⟩⟩ (cons_mem ⟨Try.typeInfo25, Try.underlying25, fun h => nomatch h⟩ (cons_mem ⟨Try.typeInfo26, Try.underlying26, fun h => nomatch h⟩ (cons_mem ⟨Try.typeInfo27, Try.underlying27, fun h => nomatch h⟩ (cons_mem ⟨Try.typeInfo28, Try.underlying28, fun _ => ⟨Try.stoodInHeld28, Try.eqGuardType28, plain28⟩⟩ (cons_mem ⟨Try.typeInfo29, Try.underlying29, fun _ => ⟨Try.stoodInHeld29, Try.eqGuardType29, plain29⟩⟩ (cons_mem ⟨Try.typeInfo30, Try.underlying30, fun h => nomatch h⟩ (cons_mem ⟨Try.typeInfo31, Try.underlying31, fun h => nomatch h⟩ nil_mem)))))))))))))))
theorem plain46 : ∀ f ∈ (Try.prog.fieldsOf 46).toList, f.name ≠ "_" := by
  have e : Try.prog.fieldsOf 46 = match Try.t46.desc with | .struct fs => fs | _ => #[] := by
    unfold Program.fieldsOf; rw [Try.underlying46]; rfl
  rw [e]; decide
theorem plain47 : ∀ f ∈ (Try.prog.fieldsOf 47).toList, f.name ≠ "_" := by
  have e : Try.prog.fieldsOf 47 = match Try.t46.desc with | .struct fs => fs | _ => #[] := by
    unfold Program.fieldsOf; rw [Try.underlying47]; rfl
  rw [e]; decide
noncomputable def tyL2 : List (Nat × Ty) := [(32, ⟨Try.t32, Try.t32.desc, false⟩), (33, ⟨Try.t33, Try.t33.desc, false⟩), (34, ⟨Try.t34, Try.t34.desc, false⟩), (35, ⟨Try.t35, Try.t35.desc, false⟩), (36, ⟨Try.t36, Try.t36.desc, false⟩), (37, ⟨Try.t37, Try.t37.desc, false⟩), (38, ⟨Try.t38, Try.t38.desc, false⟩), (39, ⟨Try.t39, Try.t39.desc, false⟩), (40, ⟨Try.t40, Try.t40.desc, false⟩), (41, ⟨Try.t41, Try.t41.desc, false⟩), (42, ⟨Try.t42, Try.t42.desc, false⟩), (43, ⟨Try.t43, Try.t43.desc, false⟩), (44, ⟨Try.t44, Try.t44.desc, false⟩), (45, ⟨Try.t45, Try.t45.desc, false⟩), (46, ⟨Try.t46, Try.t46.desc, true⟩), (47, ⟨Try.t47, Try.t46.desc, true⟩)]
theorem tyL2_ok : ∀ p ∈ tyL2, TyOk p :=
  cons_mem ⟨Try.typeInfo32, Try.underlying32, fun h => nomatch h⟩ (cons_mem ⟨Try.typeInfo33, Try.underlying33, fun h => nomatch h⟩ (cons_mem ⟨Try.typeInfo34, Try.underlying34, fun h => nomatch h⟩ (cons_mem ⟨Try.typeInfo35, Try.underlying35, fun h => nomatch h⟩ (cons_mem ⟨Try.typeInfo36, Try.underlying36, fun h => nomatch h⟩ (cons_mem ⟨Try.typeInfo37, Try.underlying37, fun h => nomatch h⟩ (cons_mem ⟨Try.typeInfo38, Try.underlying38, fun h => nomatch h⟩ (cons_mem ⟨Try.typeInfo39, Try.underlying39, fun h => nomatch h⟩ (cons_mem ⟨Try.typeInfo40, Try.underlying40, fun h => nomatch h⟩ (cons_mem ⟨Try.typeInfo41, Try.underlying41, fun h => nomatch h⟩ (cons_mem ⟨Try.typeInfo42, Try.underlying42, fun h => nomatch h⟩ (cons_mem ⟨Try.typeInfo43, Try.underlying43, fun h => nomatch h⟩ (cons_mem ⟨Try.typeInfo44, Try.underlying44, fun h => nomatch h⟩ (cons_mem ⟨Try.typeInfo45, Try.underlying45, fun h => nomatch h⟩ (cons_mem ⟨Try.typeInfo46, Try.underlying46, fun _ => ⟨Try.stoodInHeld46, Try.eqGuardType46, plain46⟩⟩ (cons_mem ⟨Try.typeInfo47, Try.underlying47, fun _ => ⟨Try.stoodInHeld47, Try.eqGuardType47, plain47⟩⟩ nil_mem)))))))))))))))
theorem plain51 : ∀ f ∈ (Try.prog.fieldsOf 51).toList, f.name ≠ "_" := by
  have e : Try.prog.fieldsOf 51 = match Try.t51.desc with | .struct fs => fs | _ => #[] := by
    unfold Program.fieldsOf; rw [Try.underlying51]; rfl
  rw [e]; decide
theorem plain52 : ∀ f ∈ (Try.prog.fieldsOf 52).toList, f.name ≠ "_" := by
  have e : Try.prog.fieldsOf 52 = match Try.t51.desc with | .struct fs => fs | _ => #[] := by
    unfold Program.fieldsOf; rw [Try.underlying52]; rfl
  rw [e]; decide
theorem plain56 : ∀ f ∈ (Try.prog.fieldsOf 56).toList, f.name ≠ "_" := by
  have e : Try.prog.fieldsOf 56 = match Try.t56.desc with | .struct fs => fs | _ => #[] := by
    unfold Program.fieldsOf; rw [Try.underlying56]; rfl
  rw [e]; decide
theorem plain57 : ∀ f ∈ (Try.prog.fieldsOf 57).toList, f.name ≠ "_" := by
  have e : Try.prog.fieldsOf 57 = match Try.t56.desc with | .struct fs => fs | _ => #[] := by
    unfold Program.fieldsOf; rw [Try.underlying57]; rfl
  rw [e]; decide
noncomputable def tyL3 : List (Nat × Ty) := [(48, ⟨Try.t48, Try.t48.desc, false⟩), (49, ⟨Try.t49, Try.t49.desc, false⟩), (50, ⟨Try.t50, Try.t50.desc, false⟩), (51, ⟨Try.t51, Try.t51.desc, true⟩), (52, ⟨Try.t52, Try.t51.desc, true⟩), (53, ⟨Try.t53, Try.t53.desc, false⟩), (54, ⟨Try.t54, Try.t54.desc, false⟩), (55, ⟨Try.t55, Try.t55.desc, false⟩), (56, ⟨Try.t56, Try.t56.desc, true⟩), (57, ⟨Try.t57, Try.t56.desc, true⟩), (58, ⟨Try.t58, Try.t58.desc, false⟩), (59, ⟨Try.t59, Try.t59.desc, false⟩), (60, ⟨Try.t60, Try.t60.desc, false⟩), (61, ⟨Try.t61, Try.t61.desc, false⟩), (62, ⟨Try.t62, Try.t62.desc, false⟩), (63, ⟨Try.t63, Try.t63.desc, false⟩)]
theorem tyL3_ok : ∀ p ∈ tyL3, TyOk p :=
  cons_mem ⟨Try.typeInfo48, Try.underlying48, fun h => nomatch h⟩ (cons_mem ⟨Try.typeInfo49, Try.underlying49, fun h => nomatch h⟩ (cons_mem ⟨Try.typeInfo50, Try.underlying50, fun h => nomatch h⟩ (cons_mem ⟨Try.typeInfo51, Try.underlying51, fun _ => ⟨Try.stoodInHeld51, Try.eqGuardType51, plain51⟩⟩ (cons_mem ⟨Try.typeInfo52, Try.underlying52, fun _ => ⟨Try.stoodInHeld52, Try.eqGuardType52, plain52⟩⟩ (cons_mem ⟨Try.typeInfo53, Try.underlying53, fun h => nomatch h⟩ (cons_mem ⟨Try.typeInfo54, Try.underlying54, fun h => nomatch h⟩ (cons_mem ⟨Try.typeInfo55, Try.underlying55, fun h => nomatch h⟩ (cons_mem ⟨Try.typeInfo56, Try.underlying56, fun _ => ⟨Try.stoodInHeld56, Try.eqGuardType56, plain56⟩⟩ (cons_mem ⟨Try.typeInfo57, Try.underlying57, fun _ => ⟨Try.stoodInHeld57, Try.eqGuardType57, plain57⟩⟩ (cons_mem ⟨Try.typeInfo58, Try.underlying58, fun h => nomatch h⟩ (cons_mem ⟨Try.typeInfo59, Try.underlying59, fun h => nomatch h⟩ (cons_mem ⟨Try.typeInfo60, Try.underlying60, fun h => nomatch h⟩ (cons_mem ⟨Try.typeInfo61, Try.underlying61, fun h => nomatch h⟩ (cons_mem ⟨Try.typeInfo62, Try.underlying62, fun h => nomatch h⟩ (cons_mem ⟨Try.typeInfo63, Try.underlying63, fun h => nomatch h⟩ nil_mem)))))))))))))))
theorem plain65 : ∀ f ∈ (Try.prog.fieldsOf 65).toList, f.name ≠ "_" := by
  have e : Try.prog.fieldsOf 65 = match Try.t65.desc with | .struct fs => fs | _ => #[] := by
    unfold Program.fieldsOf; rw [Try.underlying65]; rfl
  rw [e]; decide
theorem plain66 : ∀ f ∈ (Try.prog.fieldsOf 66).toList, f.name ≠ "_" := by
  have e : Try.prog.fieldsOf 66 = match Try.t65.desc with | .struct fs => fs | _ => #[] := by
    unfold Program.fieldsOf; rw [Try.underlying66]; rfl
  rw [e]; decide
theorem plain70 : ∀ f ∈ (Try.prog.fieldsOf 70).toList, f.name ≠ "_" := by
  have e : Try.prog.fieldsOf 70 = match Try.t70.desc with | .struct fs => fs | _ => #[] := by
    unfold Program.fieldsOf; rw [Try.underlying70]; rfl
  rw [e]; decide
theorem plain71 : ∀ f ∈ (Try.prog.fieldsOf 71).toList, f.name ≠ "_" := by
  have e : Try.prog.fieldsOf 71 = match Try.t70.desc with | .struct fs => fs | _ => #[] := by
    unfold Program.fieldsOf; rw [Try.underlying71]; rfl
  rw [e]; decide
noncomputable def tyL4 : List (Nat × Ty) := [(64, ⟨Try.t64, Try.t64.desc, false⟩), (65, ⟨Try.t65, Try.t65.desc, true⟩), (66, ⟨Try.t66, Try.t65.desc, true⟩), (67, ⟨Try.t67, Try.t67.desc, false⟩), (68, ⟨Try.t68, Try.t68.desc, false⟩), (69, ⟨Try.t69, Try.t69.desc, false⟩), (70, ⟨Try.t70, Try.t70.desc, true⟩), (71, ⟨Try.t71, Try.t70.desc, true⟩), (72, ⟨Try.t72, Try.t72.desc, false⟩), (73, ⟨Try.t73, Try.t73.desc, false⟩), (74, ⟨Try.t74, Try.t74.desc, false⟩), (75, ⟨Try.t75, Try.t75.desc, false⟩), (76, ⟨Try.t76, Try.t76.desc, false⟩), (77, ⟨Try.t77, Try.t77.desc, false⟩), (78, ⟨Try.t78, Try.t78.desc, false⟩), (79, ⟨Try.t79, Try.t79.desc, false⟩)]
theorem tyL4_ok : ∀ p ∈ tyL4, TyOk p :=
  cons_mem ⟨Try.typeInfo64, Try.underlying64, fun h => nomatch h⟩ (cons_mem ⟨Try.typeInfo65, Try.underlying65, fun _ => ⟨Try.stoodInHeld65, Try.eqGuardType65, plain65⟩⟩ (cons_mem ⟨Try.typeInfo66, Try.underlying66, fun _ => ⟨Try.stoodInHeld66, Try.eqGuardType66, plain66⟩⟩ (cons_mem ⟨Try.typeInfo67, Try.underlying67, fun h => nomatch h⟩ (cons_mem ⟨Try.typeInfo68, Try.underlying68, fun h => nomatch h⟩ (cons_mem ⟨Try.typeInfo69, Try.underlying69, fun h => nomatch h⟩ (cons_mem ⟨Try.typeInfo70, Try.underlying70, fun _ => ⟨Try.stoodInHeld70, Try.eqGuardType70, plain70⟩⟩ (cons_mem ⟨Try.typeInfo71, Try.underlying71, fun _ => ⟨Try.stoodInHeld71, Try.eqGuardType71, plain71⟩⟩ (cons_mem ⟨Try.typeInfo72, Try.underlying72, fun h => nomatch h⟩ (cons_mem ⟨Try.typeInfo73, Try.underlying73, fun h => nomatch h⟩ (cons_mem ⟨Try.typeInfo74, Try.underlying74, fun h => nomatch h⟩ (cons_mem ⟨Try.typeInfo75, Try.underlying75, fun h => nomatch h⟩ (cons_mem ⟨Try.typeInfo76, Try.underlying76, fun h => nomatch h⟩ (cons_mem ⟨Try.typeInfo77, Try.underlying77, fun h => nomatch h⟩ (cons_mem ⟨Try.typeInfo78, Try.underlying78, fun h => nomatch h⟩ (cons_mem ⟨Try.typeInfo79, Try.underlying79, fun h => nomatch h⟩ nil_mem)))))))))))))))
theorem plain88 : ∀ f ∈ (Try.prog.fieldsOf 88).toList, f.name ≠ "_" := by
  have e : Try.prog.fieldsOf 88 = match Try.t88.desc with | .struct fs => fs | _ => #[] := by
    unfold Program.fieldsOf; rw [Try.underlying88]; rfl
  rw [e]; decide
theorem plain89 : ∀ f ∈ (Try.prog.fieldsOf 89).toList, f.name ≠ "_" := by
  have e : Try.prog.fieldsOf 89 = match Try.t88.desc with | .struct fs => fs | _ => #[] := by
    unfold Program.fieldsOf; rw [Try.underlying89]; rfl
  rw [e]; decide
noncomputable def tyL5 : List (Nat × Ty) := [(80, ⟨Try.t80, Try.t80.desc, false⟩), (81, ⟨Try.t81, Try.t81.desc, false⟩), (82, ⟨Try.t82, Try.t82.desc, false⟩), (83, ⟨Try.t83, Try.t83.desc, false⟩), (84, ⟨Try.t84, Try.t84.desc, false⟩), (85, ⟨Try.t85, Try.t85.desc, false⟩), (86, ⟨Try.t86, Try.t86.desc, false⟩), (87, ⟨Try.t87, Try.t87.desc, false⟩), (88, ⟨Try.t88, Try.t88.desc, true⟩), (89, ⟨Try.t89, Try.t88.desc, true⟩), (90, ⟨Try.t90, Try.t90.desc, false⟩), (91, ⟨Try.t91, Try.t91.desc, false⟩), (92, ⟨Try.t92, Try.t92.desc, false⟩), (93, ⟨Try.t93, Try.t93.desc, false⟩), (94, ⟨Try.t94, Try.t94.desc, false⟩), (95, ⟨Try.t95, Try.t95.desc, false⟩)]
theorem tyL5_ok : ∀ p ∈ tyL5, TyOk p :=
  cons_mem ⟨Try.typeInfo80, Try.underlying80, fun h => nomatch h⟩ (cons_mem ⟨Try.typeInfo81, Try.underlying81, fun h => nomatch h⟩ (cons_mem ⟨Try.typeInfo82, Try.underlying82, fun h => nomatch h⟩ (cons_mem ⟨Try.typeInfo83, Try.underlying83, fun h => nomatch h⟩ (cons_mem ⟨Try.typeInfo84, Try.underlying84, fun h => nomatch h⟩ (cons_mem ⟨Try.typeInfo85, Try.underlying85, fun h => nomatch h⟩ (cons_mem ⟨Try.typeInfo86, Try.underlying86, fun h => nomatch h⟩ (cons_mem ⟨Try.typeInfo87, Try.underlying87, fun h => nomatch h⟩ (cons_mem ⟨Try.typeInfo88, Try.underlying88, fun _ => ⟨Try.stoodInHeld88, Try.eqGuardType88, plain88⟩⟩ (cons_mem ⟨Try.typeInfo89, Try.underlying89, fun _ => ⟨Try.stoodInHeld89, Try.eqGuardType89, plain89⟩⟩ (cons_mem ⟨Try.typeInfo90, Try.underlying90, fun h => nomatch h⟩ (cons_mem ⟨Try.typeInfo91, Try.underlying91, fun h => nomatch h⟩ (cons_mem ⟨Try.typeInfo92, Try.underlying92, fun h => nomatch h⟩ (cons_mem ⟨Try.typeInfo93, Try.underlying93, fun h => nomatch h⟩ (cons_mem ⟨Try.typeInfo94, Try.underlying94, fun h => nomatch h⟩ (cons_mem ⟨Try.typeInfo95, Try.underlying95, fun h => nomatch h⟩ nil_mem)))))))))))))))
noncomputable def tyL6 : List (Nat × Ty) := [(96, ⟨Try.t96, Try.t96.desc, false⟩), (97, ⟨Try.t97, Try.t97.desc, false⟩), (98, ⟨Try.t98, Try.t98.desc, false⟩), (99, ⟨Try.t99, Try.t99.desc, false⟩), (100, ⟨Try.t100, Try.t100.desc, false⟩), (101, ⟨Try.t101, Try.t101.desc, false⟩), (102, ⟨Try.t102, Try.t102.desc, false⟩), (103, ⟨Try.t103, Try.t103.desc, false⟩), (104, ⟨Try.t104, Try.t104.desc, false⟩), (105, ⟨Try.t105, Try.t105.desc, false⟩), (106, ⟨Try.t106, Try.t106.desc, false⟩), (107, ⟨Try.t107, Try.t107.desc, false⟩), (108, ⟨Try.t108, Try.t108.desc, false⟩), (109, ⟨Try.t109, Try.t109.desc, false⟩), (110, ⟨Try.t110, Try.t110.desc, false⟩), (111, ⟨Try.t111, Try.t111.desc, false⟩)]
theorem tyL6_ok : ∀ p ∈ tyL6, TyOk p :=
  cons_mem ⟨Try.typeInfo96, Try.underlying96, fun h => nomatch h⟩ (cons_mem ⟨Try.typeInfo97, Try.underlying97, fun h => nomatch h⟩ (cons_mem ⟨Try.typeInfo98, Try.underlying98, fun h => nomatch h⟩ (cons_mem ⟨Try.typeInfo99, Try.underlying99, fun h => nomatch h⟩ (cons_mem ⟨Try.typeInfo100, Try.underlying100, fun h => nomatch h⟩ (cons_mem ⟨Try.typeInfo101, Try.underlying101, fun h => nomatch h⟩ (cons_mem ⟨Try.typeInfo102, Try.underlying102, fun h => nomatch h⟩ (cons_mem ⟨Try.typeInfo103, Try.underlying103, fun h => nomatch h⟩ (cons_mem ⟨Try.typeInfo104, Try.underlying104, fun h => nomatch h⟩ (cons_mem ⟨Try.typeInfo105, Try.underlying105, fun h => nomatch h⟩ (cons_mem ⟨Try.typeInfo106, Try.underlying106, fun h => nomatch h⟩ (cons_mem ⟨Try.typeInfo107, Try.underlying107, fun h => nomatch h⟩ (cons_mem ⟨Try.typeInfo108, Try.underlying108, fun h => nomatch h⟩ (cons_mem ⟨Try.typeInfo109, Try.underlying109, fun h => nomatch h⟩ (cons_mem ⟨Try.typeInfo110, Try.underlying110, fun h => nomatch h⟩ (cons_mem ⟨Try.typeInfo111, Try.underlying111, fun h => nomatch h⟩ nil_mem)))))))))))))))
theorem plain115 : ∀ f ∈ (Try.prog.fieldsOf 115).toList, f.name ≠ "_" := by
  have e : Try.prog.fieldsOf 115 = match Try.t115.desc with | .struct fs => fs | _ => #[] := by
    unfold Program.fieldsOf; rw [Try.underlying115]; rfl
  rw [e]; decide
theorem plain116 : ∀ f ∈ (Try.prog.fieldsOf 116).toList, f.name ≠ "_" := by
  have e : Try.prog.fieldsOf 116 = match Try.t115.desc with | .struct fs => fs | _ => #[] := by
    unfold Program.fieldsOf; rw [Try.underlying116]; rfl
  rw [e]; decide
theorem plain117 : ∀ f ∈ (Try.prog.fieldsOf 117).toList, f.name ≠ "_" := by
  have e : Try.prog.fieldsOf 117 = match Try.t117.desc with | .struct fs => fs | _ => #[] := by
    unfold Program.fieldsOf; rw [Try.underlying117]; rfl
  rw [e]; decide
theorem plain118 : ∀ f ∈ (Try.prog.fieldsOf 118).toList, f.name ≠ "_" := by
  have e : Try.prog.fieldsOf 118 = match Try.t117.desc with | .struct fs => fs | _ => #[] := by
    unfold Program.fieldsOf; rw [Try.underlying118]; rfl
  rw [e]; decide
theorem plain119 : ∀ f ∈ (Try.prog.fieldsOf 119).toList, f.name ≠ "_" := by
  have e : Try.prog.fieldsOf 119 = match Try.t119.desc with | .struct fs => fs | _ => #[] := by
    unfold Program.fieldsOf; rw [Try.underlying119]; rfl
  rw [e]; decide
theorem plain120 : ∀ f ∈ (Try.prog.fieldsOf 120).toList, f.name ≠ "_" := by
  have e : Try.prog.fieldsOf 120 = match Try.t119.desc with | .struct fs => fs | _ => #[] := by
    unfold Program.fieldsOf; rw [Try.underlying120]; rfl
  rw [e]; decide
theorem plain126 : ∀ f ∈ (Try.prog.fieldsOf 126).toList, f.name ≠ "_" := by
  have e : Try.prog.fieldsOf 126 = match Try.t126.desc with | .struct fs => fs | _ => #[] := by
    unfold Program.fieldsOf; rw [Try.underlying126]; rfl
  rw [e]; decide
theorem plain127 : ∀ f ∈ (Try.prog.fieldsOf 127).toList, f.name ≠ "_" := by
  have e : Try.prog.fieldsOf 127 = match Try.t126.desc with | .struct fs => fs | _ => #[] := by
    unfold Program.fieldsOf; rw [Try.underlying127]; rfl
  rw [e]; decide
noncomputable def tyL7 : List (Nat × Ty) := [(112, ⟨Try.t112, Try.t112.desc, false⟩), (113, ⟨Try.t113, Try.t113.desc, false⟩), (114, ⟨Try.t114, Try.t114.desc, false⟩), (115, ⟨Try.t115, Try.t115.desc, true⟩), (116, ⟨Try.t116, Try.t115.desc, true⟩), (117, ⟨Try.t117, Try.t117.desc, true⟩), (118, ⟨Try.t118, Try.t117.desc, true⟩), (119, ⟨Try.t119, Try.t119.desc, true⟩), (120, ⟨Try.t120, Try.t119.desc, true⟩), (121, ⟨Try.t121, Try.t121.desc, false⟩), (122, ⟨Try.t122, Try.t122.desc, false⟩), (123, ⟨Try.t123, Try.t123.desc, false⟩), (124, ⟨Try.t124, Try.t124.desc, false⟩), (125, ⟨Try.t125, Try.t125.desc, false⟩), (126, ⟨Try.t126, Try.t126.desc, true⟩), (127, ⟨Try.t127, Try.t126.desc, true⟩)]
theorem tyL7_ok : ∀ p ∈ tyL7, TyOk p :=
  cons_mem ⟨Try.typeInfo112, Try.underlying112, fun h => nomatch h⟩ (cons_mem ⟨Try.typeInfo113, Try.underlying113, fun h => nomatch h⟩ (cons_mem ⟨Try.typeInfo114, Try.underlying114, fun h => nomatch h⟩ (cons_mem ⟨Try.typeInfo115, Try.underlying115, fun _ => ⟨Try.stoodInHeld115, Try.eqGuardType115, plain115⟩⟩ (cons_mem ⟨Try.typeInfo116, Try.underlying116, fun _ => ⟨Try.stoodInHeld116, Try.eqGuardType116, plain116⟩⟩ (cons_mem ⟨Try.typeInfo117, Try.underlying117, fun _ => ⟨Try.stoodInHeld117, Try.eqGuardType117, plain117⟩⟩ (cons_mem ⟨Try.typeInfo118, Try.underlying118, fun _ => ⟨Try.stoodInHeld118, Try.eqGuardType118, plain118⟩⟩ (cons_mem ⟨Try.typeInfo119, Try.underlying119, fun _ => ⟨Try.stoodInHeld119, Try.eqGuardType119, plain119⟩⟩ (cons_mem ⟨Try.typeInfo120, Try.underlying120, fun _ => ⟨Try.stoodInHeld120, Try.eqGuardType120, plain120⟩⟩ (cons_mem ⟨Try.typeInfo121, Try.underlying121, fun h => nomatch h⟩ (cons_mem ⟨Try.typeInfo122, Try.underlying122, fun h => nomatch h⟩ (cons_mem ⟨Try.typeInfo123, Try.underlying123, fun h => nomatch h⟩ (cons_mem ⟨Try.typeInfo124, Try.underlying124, fun h => nomatch h⟩ (cons_mem ⟨Try.typeInfo125, Try.underlying125, fun h => nomatch h⟩ (cons_mem ⟨Try.typeInfo126, Try.underlying126, fun _ => ⟨Try.stoodInHeld126, Try.eqGuardType126, plain126⟩⟩ (cons_mem ⟨Try.typeInfo127, Try.underlying127, fun _ => ⟨Try.stoodInHeld127, Try.eqGuardType127, plain127⟩⟩ nil_mem)))))))))))))))
theorem plain131 : ∀ f ∈ (Try.prog.fieldsOf 131).toList, f.name ≠ "_" := by
  have e : Try.prog.fieldsOf 131 = match Try.t131.desc with | .struct fs => fs | _ => #[] := by
    unfold Program.fieldsOf; rw [Try.underlying131]; rfl
  rw [e]; decide
theorem plain132 : ∀ f ∈ (Try.prog.fieldsOf 132).toList, f.name ≠ "_" := by
  have e : Try.prog.fieldsOf 132 = match Try.t131.desc with | .struct fs => fs | _ => #[] := by
    unfold Program.fieldsOf; rw [Try.underlying132]; rfl
  rw [e]; decide
theorem plain137 : ∀ f ∈ (Try.prog.fieldsOf 137).toList, f.name ≠ "_" := by
  have e : Try.prog.fieldsOf 137 = match Try.t137.desc with | .struct fs => fs | _ => #[] := by
    unfold Program.fieldsOf; rw [Try.underlying137]; rfl
  rw [e]; decide
theorem plain138 : ∀ f ∈ (Try.prog.fieldsOf 138).toList, f.name ≠ "_" := by
  have e : Try.prog.fieldsOf 138 = match Try.t137.desc with | .struct fs => fs | _ => #[] := by
    unfold Program.fieldsOf; rw [Try.underlying138]; rfl
  rw [e]; decide
noncomputable def tyL8 : List (Nat × Ty) := [(128, ⟨Try.t128, Try.t128.desc, false⟩), (129, ⟨Try.t129, Try.t129.desc, false⟩), (130, ⟨Try.t130, Try.t130.desc, false⟩), (131, ⟨Try.t131, Try.t131.desc, true⟩), (132, ⟨Try.t132, Try.t131.desc, true⟩), (133, ⟨Try.t133, Try.t133.desc, false⟩), (134, ⟨Try.t134, Try.t134.desc, false⟩), (135, ⟨Try.t135, Try.t135.desc, false⟩), (136, ⟨Try.t136, Try.t136.desc, false⟩), (137, ⟨Try.t137, Try.t137.desc, true⟩), (138, ⟨Try.t138, Try.t137.desc, true⟩), (139, ⟨Try.t139, Try.t139.desc, false⟩), (140, ⟨Try.t140, Try.t140.desc, false⟩), (141, ⟨Try.t141, Try.t141.desc, false⟩), (142, ⟨Try.t142, Try.t142.desc, false⟩), (143, ⟨Try.t143, Try.t143.desc, false⟩)]
theorem tyL8_ok : ∀ p ∈ tyL8, TyOk p :=
  cons_mem ⟨Try.typeInfo128, Try.underlying128, fun h => nomatch h⟩ (cons_mem ⟨Try.typeInfo129, Try.underlying129, fun h => nomatch h⟩ (cons_mem ⟨Try.typeInfo130, Try.underlying130, fun h => nomatch h⟩ (cons_mem ⟨Try.typeInfo131, Try.underlying131, fun _ => ⟨Try.stoodInHeld131, Try.eqGuardType131, plain131⟩⟩ (cons_mem ⟨Try.typeInfo132, Try.underlying132, fun _ => ⟨Try.stoodInHeld132, Try.eqGuardType132, plain132⟩⟩ (cons_mem ⟨Try.typeInfo133, Try.underlying133, fun h => nomatch h⟩ (cons_mem ⟨Try.typeInfo134, Try.underlying134, fun h => nomatch h⟩ (cons_mem ⟨Try.typeInfo135, Try.underlying135, fun h => nomatch h⟩ (cons_mem ⟨Try.typeInfo136, Try.underlying136, fun h => nomatch h⟩ (cons_mem ⟨Try.typeInfo137, Try.underlying137, fun _ => ⟨Try.stoodInHeld137, Try.eqGuardType137, plain137⟩⟩ (cons_mem ⟨Try.typeInfo138, Try.underlying138, fun _ => ⟨Try.stoodInHeld138, Try.eqGuardType138, plain138⟩⟩ (cons_mem ⟨Try.typeInfo139, Try.underlying139, fun h => nomatch h⟩ (cons_mem ⟨Try.typeInfo140, Try.underlying140, fun h => nomatch h⟩ (cons_mem ⟨Try.typeInfo141, Try.underlying141, fun h => nomatch h⟩ (cons_mem ⟨Try.typeInfo142, Try.underlying142, fun h => nomatch h⟩ (cons_mem ⟨Try.typeInfo143, Try.underlying143, fun h => nomatch h⟩ nil_mem)))))))))))))))
noncomputable def tyL9 : List (Nat × Ty) := [(144, ⟨Try.t144, Try.t144.desc, false⟩), (145, ⟨Try.t145, Try.t145.desc, false⟩), (146, ⟨Try.t146, Try.t146.desc, false⟩), (147, ⟨Try.t147, Try.t147.desc, false⟩), (148, ⟨Try.t148, Try.t148.desc, false⟩), (149, ⟨Try.t149, Try.t149.desc, false⟩), (150, ⟨Try.t150, Try.t150.desc, false⟩), (151, ⟨Try.t151, Try.t151.desc, false⟩), (152, ⟨Try.t152, Try.t152.desc, false⟩), (153, ⟨Try.t153, Try.t153.desc, false⟩), (154, ⟨Try.t154, Try.t154.desc, false⟩), (155, ⟨Try.t155, Try.t155.desc, false⟩), (156, ⟨Try.t156, Try.t156.desc, false⟩), (157, ⟨Try.t157, Try.t157.desc, false⟩), (158, ⟨Try.t158, Try.t158.desc, false⟩), (159, ⟨Try.t159, Try.t159.desc, false⟩)]
theorem tyL9_ok : ∀ p ∈ tyL9, TyOk p :=
  cons_mem ⟨Try.typeInfo144, Try.underlying144, fun h => nomatch h⟩ (cons_mem ⟨Try.typeInfo145, Try.underlying145, fun h => nomatch h⟩ (cons_mem ⟨Try.typeInfo146, Try.underlying146, fun h => nomatch h⟩ (cons_mem ⟨Try.typeInfo147, Try.underlying147, fun h => nomatch h⟩ (cons_mem ⟨Try.typeInfo148, Try.underlying148, fun h => nomatch h⟩ (cons_mem ⟨Try.typeInfo149, Try.underlying149, fun h => nomatch h⟩ (cons_mem ⟨Try.typeInfo150, Try.underlying150, fun h => nomatch h⟩ (cons_mem ⟨Try.typeInfo151, Try.underlying151, fun h => nomatch h⟩ (cons_mem ⟨Try.typeInfo152, Try.underlying152, fun h => nomatch h⟩ (cons_mem ⟨Try.typeInfo153, Try.underlying153, fun h => nomatch h⟩ (cons_mem ⟨Try.typeInfo154, Try.underlying154, fun h => nomatch h⟩ (cons_mem ⟨Try.typeInfo155, Try.underlying155, fun h => nomatch h⟩ (cons_mem ⟨Try.typeInfo156, Try.underlying156, fun h => nomatch h⟩ (cons_mem ⟨Try.typeInfo157, Try.underlying157, fun h => nomatch h⟩ (cons_mem ⟨Try.typeInfo158, Try.underlying158, fun h => nomatch h⟩ (cons_mem ⟨Try.typeInfo159, Try.underlying159, fun h => nomatch h⟩ nil_mem)))))))))))))))
theorem plain165 : ∀ f ∈ (Try.prog.fieldsOf 165).toList, f.name ≠ "_" := by
  have e : Try.prog.fieldsOf 165 = match Try.t165.desc with | .struct fs => fs | _ => #[] := by
    unfold Program.fieldsOf; rw [Try.underlying165]; rfl
  rw [e]; decide
theorem plain166 : ∀ f ∈ (Try.prog.fieldsOf 166).toList, f.name ≠ "_" := by
  have e : Try.prog.fieldsOf 166 = match Try.t165.desc with | .struct fs => fs | _ => #[] := by
    unfold Program.fieldsOf; rw [Try.underlying166]; rfl
  rw [e]; decide
noncomputable def tyL10 : List (Nat × Ty) := [(160, ⟨Try.t160, Try.t160.desc, false⟩), (161, ⟨Try.t161, Try.t161.desc, false⟩), (162, ⟨Try.t162, Try.t162.desc, false⟩), (163, ⟨Try.t163, Try.t163.desc, false⟩), (164, ⟨Try.t164, Try.t164.desc, false⟩), (165, ⟨Try.t165, Try.t165.desc, true⟩), (166, ⟨Try.t166, Try.t165.desc, true⟩), (167, ⟨Try.t167, Try.t167.desc, false⟩), (168, ⟨Try.t168, Try.t168.desc, false⟩), (169, ⟨Try.t169, Try.t169.desc, false⟩), (170, ⟨Try.t170, Try.t170.desc, false⟩), (171, ⟨Try.t171, Try.t171.desc, false⟩), (172, ⟨Try.t172, Try.t172.desc, false⟩), (173, ⟨Try.t173, Try.t173.desc, false⟩), (174, ⟨Try.t174, Try.t173.desc, false⟩), (175, ⟨Try.t175, Try.t175.desc, false⟩)]
theorem tyL10_ok : ∀ p ∈ tyL10, TyOk p :=
  cons_mem ⟨Try.typeInfo160, Try.underlying160, fun h => nomatch h⟩ (cons_mem ⟨Try.typeInfo161, Try.underlying161, fun h => nomatch h⟩ (cons_mem ⟨Try.typeInfo162, Try.underlying162, fun h => nomatch h⟩ (cons_mem ⟨Try.typeInfo163, Try.underlying163, fun h => nomatch h⟩ (cons_mem ⟨Try.typeInfo164, Try.underlying164, fun h => nomatch h⟩ (cons_mem ⟨Try.typeInfo165, Try.underlying165, fun _ => ⟨Try.stoodInHeld165, Try.eqGuardType165, plain165⟩⟩ (cons_mem ⟨Try.typeInfo166, Try.underlying166, fun _ => ⟨Try.stoodInHeld166, Try.eqGuardType166, plain166⟩⟩ (cons_mem ⟨Try.typeInfo167, Try.underlying167, fun h => nomatch h⟩ (cons_mem ⟨Try.typeInfo168, Try.underlying168, fun h => nomatch h⟩ (cons_mem ⟨Try.typeInfo169, Try.underlying169, fun h => nomatch h⟩ (cons_mem ⟨Try.typeInfo170, Try.underlying170, fun h => nomatch h⟩ (cons_mem ⟨Try.typeInfo171, Try.underlying171, fun h => nomatch h⟩ (cons_mem ⟨Try.typeInfo172, Try.underlying172, fun h => nomatch h⟩ (cons_mem ⟨Try.typeInfo173, Try.underlying173, fun h => nomatch h⟩ (cons_mem ⟨Try.typeInfo174, Try.underlying174, fun h => nomatch h⟩ (cons_mem ⟨Try.typeInfo175, Try.underlying175, fun h => nomatch h⟩ nil_mem)))))))))))))))
noncomputable def tyL11 : List (Nat × Ty) := [(176, ⟨Try.t176, Try.t176.desc, false⟩), (177, ⟨Try.t177, Try.t176.desc, false⟩), (178, ⟨Try.t178, Try.t178.desc, false⟩), (179, ⟨Try.t179, Try.t179.desc, false⟩), (180, ⟨Try.t180, Try.t5.desc, false⟩), (181, ⟨Try.t181, Try.t5.desc, false⟩), (182, ⟨Try.t182, Try.t182.desc, false⟩), (183, ⟨Try.t183, Try.t183.desc, false⟩), (184, ⟨Try.t184, Try.t21.desc, false⟩), (185, ⟨Try.t185, Try.t21.desc, false⟩), (186, ⟨Try.t186, Try.t186.desc, false⟩), (187, ⟨Try.t187, Try.t186.desc, false⟩), (188, ⟨Try.t188, Try.t188.desc, false⟩)]
theorem tyL11_ok : ∀ p ∈ tyL11, TyOk p :=
  cons_mem ⟨Try.typeInfo176, Try.underlying176, fun h => nomatch h⟩ (cons_mem ⟨Try.typeInfo177, Try.underlying177, fun h => nomatch h⟩ (cons_mem ⟨Try.typeInfo178, Try.underlying178, fun h => nomatch h⟩ (cons_mem ⟨Try.typeInfo179, Try.underlying179, fun h => nomatch h⟩ (cons_mem ⟨Try.typeInfo180, Try.underlying180, fun h => nomatch h⟩ (cons_mem ⟨Try.typeInfo181, Try.underlying181, fun h => nomatch h⟩ (cons_mem ⟨Try.typeInfo182, Try.underlying182, fun h => nomatch h⟩ (cons_mem ⟨Try.typeInfo183, Try.underlying183, fun h => nomatch h⟩ (cons_mem ⟨Try.typeInfo184, Try.underlying184, fun h => nomatch h⟩ (cons_mem ⟨Try.typeInfo185, Try.underlying185, fun h => nomatch h⟩ (cons_mem ⟨Try.typeInfo186, Try.underlying186, fun h => nomatch h⟩ (cons_mem ⟨Try.typeInfo187, Try.underlying187, fun h => nomatch h⟩ (cons_mem ⟨Try.typeInfo188, Try.underlying188, fun h => nomatch h⟩ nil_mem))))))))))))
noncomputable def tyL : List (Nat × Ty) := tyL0 ++ tyL1 ++ tyL2 ++ tyL3 ++ tyL4 ++ tyL5 ++ tyL6 ++ tyL7 ++ tyL8 ++ tyL9 ++ tyL10 ++ tyL11
theorem tyL_ok : ∀ p ∈ tyL, TyOk p := app_mem (app_mem (app_mem (app_mem (app_mem (app_mem (app_mem (app_mem (app_mem (app_mem (app_mem (tyL0_ok) tyL1_ok) tyL2_ok) tyL3_ok) tyL4_ok) tyL5_ok) tyL6_ok) tyL7_ok) tyL8_ok) tyL9_ok) tyL10_ok) tyL11_ok
noncomputable def fnL0 : List (Nat × Func) := [(2, Try.f2), (3, Try.f3), (4, Try.f4), (5, Try.f5), (6, Try.f6), (7, Try.f7), (8, Try.f8), (9, Try.f9), (10, Try.f10), (11, Try.f11), (12, Try.f12), (13, Try.f13), (14, Try.f14), (15, Try.f15), (16, Try.f16), (17, Try.f17)]
theorem fnL0_ok : ∀ p ∈ fnL0, FnOk p :=
  cons_mem ⟨Try.func2, Try.call2⟩ (cons_mem ⟨Try.func3, Try.call3⟩ (cons_mem ⟨Try.func4, Try.call4⟩ (cons_mem ⟨Try.func5, Try.call5⟩ (cons_mem ⟨Try.func6, Try.call6⟩ (cons_mem ⟨Try.func7, Try.call7⟩ (cons_mem ⟨Try.func8, Try.call8⟩ (cons_mem ⟨Try.func9, Try.call9⟩ (cons_mem ⟨Try.func10, Try.call10⟩ (cons_mem ⟨Try.func11, Try.call11⟩ (cons_mem ⟨Try.func12, Try.call12⟩ (cons_mem ⟨Try.func13, Try.call13⟩ (cons_mem ⟨Try.func14, Try.call14⟩ (cons_mem ⟨Try.func15, Try.call15⟩ (cons_mem ⟨Try.func16, Try.call16⟩ (cons_mem ⟨Try.func17, Try.call17⟩ (nil_mem))))))))))))))))
noncomputable def fnL1 : List (Nat × Func) := [(18, Try.f18), (19, Try.f19), (20, Try.f20), (21, Try.f21), (22, Try.f22), (23, Try.f23), (24, Try.f24), (25, Try.f25), (26, Try.f26), (27, Try.f27), (28, Try.f28), (29, Try.f29), (30, Try.f30), (31, Try.f31), (32, Try.f32), (33, Try.f33)]
theorem fnL1_ok : ∀ p ∈ fnL1, FnOk p :=
  cons_mem ⟨Try.func18, Try.call18⟩ (cons_mem ⟨Try.func19, Try.call19⟩ (cons_mem ⟨Try.func20, Try.call20⟩ (cons_mem ⟨Try.func21, Try.call21⟩ (cons_mem ⟨Try.func22, Try.call22⟩ (cons_mem ⟨Try.func23, Try.call23⟩ (cons_mem ⟨Try.func24, Try.call24⟩ (cons_mem ⟨Try.func25, Try.call25⟩ (cons_mem ⟨Try.func26, Try.call26⟩ (cons_mem ⟨Try.func27, Try.call27⟩ (cons_mem ⟨Try.func28, Try.call28⟩ (cons_mem ⟨Try.func29, Try.call29⟩ (cons_mem ⟨Try.func30, Try.call30⟩ (cons_mem ⟨Try.func31, Try.call31⟩ (cons_mem ⟨Try.func32, Try.call32⟩ (cons_mem ⟨Try.func33, Try.call33⟩ (nil_mem))))))))))))))))
noncomputable def fnL2 : List (Nat × Func) := [(34, Try.f34), (35, Try.f35), (36, Try.f36), (37, Try.f37), (38, Try.f38), (39, Try.f39), (40, Try.f40), (41, Try.f41), (42, Try.f42), (43, Try.f43), (44, Try.f44), (45, Try.f45), (46, Try.f46), (47, Try.f47), (48, Try.f48), (49, Try.f49)]
theorem fnL2_ok : ∀ p ∈ fnL2, FnOk p :=
  cons_mem ⟨Try.func34, Try.call34⟩ (cons_mem ⟨Try.func35, Try.call35⟩ (cons_mem ⟨Try.func36, Try.call36⟩ (cons_mem ⟨Try.func37, Try.call37⟩ (cons_mem ⟨Try.func38, Try.call38⟩ (cons_mem ⟨Try.func39, Try.call39⟩ (cons_mem ⟨Try.func40, Try.call40⟩ (cons_mem ⟨Try.func41, Try.call41⟩ (cons_mem ⟨Try.func42, Try.call42⟩ (cons_mem ⟨Try.func43, Try.call43⟩ (cons_mem ⟨Try.func44, Try.call44⟩ (cons_mem ⟨Try.func45, Try.call45⟩ (cons_mem ⟨Try.func46, Try.call46⟩ (cons_mem ⟨Try.func47, Try.call47⟩ (cons_mem ⟨Try.func48, Try.call48⟩ (cons_mem ⟨Try.func49, Try.call49⟩ (nil_mem))))))))))))))))
noncomputable def fnL3 : List (Nat × Func) := [(50, Try.f50), (51, Try.f51), (52, Try.f52), (53, Try.f53), (54, Try.f54), (55, Try.f55), (56, Try.f56), (57, Try.f57), (58, Try.f58), (59, Try.f59), (60, Try.f60), (61, Try.f61), (62, Try.f62), (63, Try.f63), (64, Try.f64), (65, Try.f65)]
theorem fnL3_ok : ∀ p ∈ fnL3, FnOk p :=
  cons_mem ⟨Try.func50, Try.call50⟩ (cons_mem ⟨Try.func51, Try.call51⟩ (cons_mem ⟨Try.func52, Try.call52⟩ (cons_mem ⟨Try.func53, Try.call53⟩ (cons_mem ⟨Try.func54, Try.call54⟩ (cons_mem ⟨Try.func55, Try.call55⟩ (cons_mem ⟨Try.func56, Try.call56⟩ (cons_mem ⟨Try.func57, Try.call57⟩ (cons_mem ⟨Try.func58, Try.call58⟩ (cons_mem ⟨Try.func59, Try.call59⟩ (cons_mem ⟨Try.func60, Try.call60⟩ (cons_mem ⟨Try.func61, Try.call61⟩ (cons_mem ⟨Try.func62, Try.call62⟩ (cons_mem ⟨Try.func63, Try.call63⟩ (cons_mem ⟨Try.func64, Try.call64⟩ (cons_mem ⟨Try.func65, Try.call65⟩ (nil_mem))))))))))))))))
noncomputable def fnL4 : List (Nat × Func) := [(66, Try.f66), (67, Try.f67), (68, Try.f68), (69, Try.f69), (70, Try.f70), (71, Try.f71), (72, Try.f72), (73, Try.f73), (74, Try.f74), (75, Try.f75), (76, Try.f76), (77, Try.f77), (78, Try.f78), (79, Try.f79), (80, Try.f80), (81, Try.f81)]
theorem fnL4_ok : ∀ p ∈ fnL4, FnOk p :=
  cons_mem ⟨Try.func66, Try.call66⟩ (cons_mem ⟨Try.func67, Try.call67⟩ (cons_mem ⟨Try.func68, Try.call68⟩ (cons_mem ⟨Try.func69, Try.call69⟩ (cons_mem ⟨Try.func70, Try.call70⟩ (cons_mem ⟨Try.func71, Try.call71⟩ (cons_mem ⟨Try.func72, Try.call72⟩ (cons_mem ⟨Try.func73, Try.call73⟩ (cons_mem ⟨Try.func74, Try.call74⟩ (cons_mem ⟨Try.func75, Try.call75⟩ (cons_mem ⟨Try.func76, Try.call76⟩ (cons_mem ⟨Try.func77, Try.call77⟩ (cons_mem ⟨Try.func78, Try.call78⟩ (cons_mem ⟨Try.func79, Try.call79⟩ (cons_mem ⟨Try.func80, Try.call80⟩ (cons_mem ⟨Try.func81, Try.call81⟩ (nil_mem))))))))))))))))
noncomputable def fnL5 : List (Nat × Func) := [(82, Try.f82), (83, Try.f83), (84, Try.f84), (85, Try.f85), (86, Try.f86), (87, Try.f87), (88, Try.f88), (89, Try.f89), (90, Try.f90), (91, Try.f91), (92, Try.f92), (93, Try.f93), (94, Try.f94), (95, Try.f95), (96, Try.f96), (97, Try.f97)]
theorem fnL5_ok : ∀ p ∈ fnL5, FnOk p :=
  cons_mem ⟨Try.func82, Try.call82⟩ (cons_mem ⟨Try.func83, Try.call83⟩ (cons_mem ⟨Try.func84, Try.call84⟩ (cons_mem ⟨Try.func85, Try.call85⟩ (cons_mem ⟨Try.func86, Try.call86⟩ (cons_mem ⟨Try.func87, Try.call87⟩ (cons_mem ⟨Try.func88, Try.call88⟩ (cons_mem ⟨Try.func89, Try.call89⟩ (cons_mem ⟨Try.func90, Try.call90⟩ (cons_mem ⟨Try.func91, Try.call91⟩ (cons_mem ⟨Try.func92, Try.call92⟩ (cons_mem ⟨Try.func93, Try.call93⟩ (cons_mem ⟨Try.func94, Try.call94⟩ (cons_mem ⟨Try.func95, Try.call95⟩ (cons_mem ⟨Try.func96, Try.call96⟩ (cons_mem ⟨Try.func97, Try.call97⟩ (nil_mem))))))))))))))))
noncomputable def fnL6 : List (Nat × Func) := [(98, Try.f98), (99, Try.f99), (100, Try.f100), (101, Try.f101), (102, Try.f102), (103, Try.f103), (104, Try.f104), (105, Try.f105), (106, Try.f106), (107, Try.f107), (108, Try.f108), (109, Try.f109), (110, Try.f110), (111, Try.f111), (112, Try.f112), (113, Try.f113)]
theorem fnL6_ok : ∀ p ∈ fnL6, FnOk p :=
  cons_mem ⟨Try.func98, Try.call98⟩ (cons_mem ⟨Try.func99, Try.call99⟩ (cons_mem ⟨Try.func100, Try.call100⟩ (cons_mem ⟨Try.func101, Try.call101⟩ (cons_mem ⟨Try.func102, Try.call102⟩ (cons_mem ⟨Try.func103, Try.call103⟩ (cons_mem ⟨Try.func104, Try.call104⟩ (cons_mem ⟨Try.func105, Try.call105⟩ (cons_mem ⟨Try.func106, Try.call106⟩ (cons_mem ⟨Try.func107, Try.call107⟩ (cons_mem ⟨Try.func108, Try.call108⟩ (cons_mem ⟨Try.func109, Try.call109⟩ (cons_mem ⟨Try.func110, Try.call110⟩ (cons_mem ⟨Try.func111, Try.call111⟩ (cons_mem ⟨Try.func112, Try.call112⟩ (cons_mem ⟨Try.func113, Try.call113⟩ (nil_mem))))))))))))))))
noncomputable def fnL7 : List (Nat × Func) := [(114, Try.f114), (115, Try.f115), (116, Try.f116), (117, Try.f117), (118, Try.f118), (119, Try.f119), (120, Try.f120), (121, Try.f121), (122, Try.f122), (123, Try.f123)]
theorem fnL7_ok : ∀ p ∈ fnL7, FnOk p :=
  cons_mem ⟨Try.func114, Try.call114⟩ (cons_mem ⟨Try.func115, Try.call115⟩ (cons_mem ⟨Try.func116, Try.call116⟩ (cons_mem ⟨Try.func117, Try.call117⟩ (cons_mem ⟨Try.func118, Try.call118⟩ (cons_mem ⟨Try.func119, Try.call119⟩ (cons_mem ⟨Try.func120, Try.call120⟩ (cons_mem ⟨Try.func121, Try.call121⟩ (cons_mem ⟨Try.func122, Try.call122⟩ (cons_mem ⟨Try.func123, Try.call123⟩ (nil_mem))))))))))
noncomputable def fnL : List (Nat × Func) := fnL0 ++ fnL1 ++ fnL2 ++ fnL3 ++ fnL4 ++ fnL5 ++ fnL6 ++ fnL7
theorem fnL_ok : ∀ p ∈ fnL, FnOk p := app_mem (app_mem (app_mem (app_mem (app_mem (app_mem (app_mem (fnL0_ok) fnL1_ok) fnL2_ok) fnL3_ok) fnL4_ok) fnL5_ok) fnL6_ok) fnL7_ok
noncomputable def tyT : Tr Ty := Tr.ofL tyL
noncomputable def fnT : Tr Func := Tr.ofL fnL
noncomputable def tabW (orc : List Orc) (mmo : List Mmo) (ctr : List Ctr) (ext : List Xo) (src : List Sr) : Tab := ⟨tyT, fnT, orc, mmo, ctr, ext, src⟩
theorem tyT_eq {orc : List Orc} {mmo : List Mmo} {ctr : List Ctr} {ext : List Xo} {src : List Sr} : (tabW orc mmo ctr ext src).ty = Tr.ofL tyL := by
  unfold tabW tyT
  dsimp only
theorem fnT_eq {orc : List Orc} {mmo : List Mmo} {ctr : List Ctr} {ext : List Xo} {src : List Sr} : (tabW orc mmo ctr ext src).fn = Tr.ofL fnL := by
  unfold tabW fnT
  dsimp only
theorem tab_ok {σ : Sg} {orc : List Orc} {mmo : List Mmo} {ctr : List Ctr} {ext : List Xo} {src : List Sr}
    (h1 : ∀ e ∈ orc, flatV e.v = true ∧ ∃ a b, (∀ E, den σ E e.x = .int .i64 a) ∧ (∀ E, den σ E e.y = .int .i64 b) ∧ intB e.op .i64 a b = some (den σ E00 e.v))
    (h2 : ∀ e ∈ mmo, flatV e.v = true ∧ ∃ a b, (∀ E, den σ E e.x = .int .i64 a) ∧ (∀ E, den σ E e.y = .int .i64 b) ∧ den σ E00 e.v = .int .i64 (if e.mx then (if b > a then b else a) else (if b < a then b else a)))
    (h3 : ∀ e ∈ ctr, flatV e.v = true ∧ e.args.all flatV = true ∧ ∀ w, Calls Try.prog e.f (e.args.map (den σ E00)).toArray w fun r w' => r = .returned (den σ E00 e.v) ∧ RowKit.Below w.heap.size w w')
    (h4 : ∀ e ∈ ext, ∀ (ρ : Operand → Value) (o : Oper) (w : World) (E : Env), tagOf o.op = some (e.tag, e.t) → o.op.operands.toList.map ρ = e.vs.map (den σ E) → (∀ p ∈ σ.x, w.heap[p.1]? = some p.2) → (execOp ρ o).run Try.prog w = .ok (.value (den σ E e.v)) w)
    (h5 : ∀ e ∈ src, e.l.length = e.n * e.size ∧ (∀ w, (Builtin.lenOf (σ.v e.i)).run Try.prog w = .ok e.n w) ∧ ∀ E w, (∀ p ∈ σ.x, w.heap[p.1]? = some p.2) → (Builtin.firstCells e.size e.n (σ.v e.i)).run Try.prog w = .ok (e.l.map (den σ E)).toArray w) :
    (tabW orc mmo ctr ext src).Ok σ Try.prog where
  info t y h := (tyL_ok (t, y) (Tr.get_of_eq tyT_eq h)).1
  desc t y h := (tyL_ok (t, y) (Tr.get_of_eq tyT_eq h)).2.1
  plain t y h := (tyL_ok (t, y) (Tr.get_of_eq tyT_eq h)).2.2
  fn f g h := (fnL_ok (f, g) (Tr.get_of_eq fnT_eq h)).1
  call f g h := (fnL_ok (f, g) (Tr.get_of_eq fnT_eq h)).2
  mixed := by kernel_rfl
  orc := h1
  mmo := h2
  ctr := h3
  ext := h4
  src := h5
theorem tab_plain {σ : Sg} : (tabW [] [] [] [] []).Ok σ Try.prog := tab_ok nil_mem nil_mem nil_mem nil_mem nil_mem
end Go.Proofs.Ytnjfbcoddbeggaa
