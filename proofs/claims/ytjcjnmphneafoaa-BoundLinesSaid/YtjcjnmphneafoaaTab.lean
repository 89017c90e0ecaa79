/-
  The tables of this seat's program, for the runner of closed code.
-/
import Derived.Test.YtjcjnmphneafoaaSx24
import Derived.KernelRfl
import Derived.Test.YtjcjnmphneafoaaProg
namespace Go.Proofs.Ytjcjnmphneafoaa
open Go Go.Proofs.Ytjcjnmphneafoaa.Sx
def TyOk (p : Nat × Ty) : Prop := (∀ w, (typeInfo p.1).run Try.prog w = .ok p.2.info w) ∧ Try.prog.underlying p.1 = some p.2.desc ∧ (p.2.plain = true → Try.prog.stoodInHeld p.1 = false ∧ Try.prog.eqGuardType Try.prog.depth p.1 = false ∧ ∀ f ∈ (Try.prog.fieldsOf p.1).toList, f.name ≠ "_")
def FnOk (p : Nat × Func) : Prop := Try.prog.funcs[p.1]? = some p.2 ∧ ∀ args w, (callFunc p.1 args).run Try.prog w = .ok (.enter p.1 args) w
theorem cons_mem {α : Type} {p : α → Prop} {a : α} {l : List α} (h : p a) (k : ∀ x ∈ l, p x) : ∀ x ∈ a :: l, p x := fun x hx => by
  rcases List.mem_cons.1 hx with rfl | hx
  · exact h
  · exact k x hx
theorem nil_mem {α : Type} {p : α → Prop} : ∀ x ∈ ([] : List α), p x := fun _ hx => nomatch hx
theorem app_mem {α : Type} {p : α → Prop} {l m : List α} (h : ∀ x ∈ l, p x) (k : ∀ x ∈ m, p x) : ∀ x ∈ l ++ m, p x := fun x hx => (List.mem_append.1 hx).elim (h x) (k x)
theorem plain7 : ∀ f ∈ (Try.prog.fieldsOf 7).toList, f.name ≠ "_" := by
  have e : Try.prog.fieldsOf 7 = match Try.t7.desc with | .struct fs => fs | _ => #[] := by
    unfold Program.fieldsOf; rw [Try.underlying7]; rfl
  rw [e]; decide
theorem plain8 : ∀ f ∈ (Try.prog.fieldsOf 8).toList, f.name ≠ "_" := by
  have e : Try.prog.fieldsOf 8 = match Try.t7.desc with | .struct fs => fs | _ => #[] := by
    unfold Program.fieldsOf; rw [Try.underlying8]; rfl
  rw [e]; decide
noncomputable def tyL0 : List (Nat × Ty) := [(0, ⟨Try.t0, Try.t0.desc, false⟩), (1, ⟨Try.t1, Try.t1.desc, false⟩), (2, ⟨Try.t2, Try.t2.desc, false⟩), (3, ⟨Try.t3, Try.t3.desc, false⟩), (4, ⟨Try.t4, Try.t4.desc, false⟩), (5, ⟨Try.t5, Try.t5.desc, false⟩), (6, ⟨Try.t6, Try.t5.desc, false⟩), (7, ⟨Try.t7, Try.t7.desc, true⟩), (8, ⟨Try.t8, Try.t7.desc, true⟩), (9, ⟨Try.t9, Try.t9.desc, false⟩), (10, ⟨Try.t10, Try.t9.desc, false⟩), (11, ⟨Try.t11, Try.t9.desc, false⟩), (12, ⟨Try.t12, Try.t12.desc, false⟩), (13, ⟨Try.t13, Try.t13.desc, false⟩), (14, ⟨Try.t14, Try.t13.desc, false⟩), (15, ⟨Try.t15, Try.t15.desc, false⟩)]
theorem tyL0_ok : ∀ p ∈ tyL0, TyOk p :=
  cons_mem ⟨Try.typeInfo0, Try.underlying0, fun h => nomatch h⟩ (cons_mem ⟨Try.typeInfo1, Try.underlying1, fun h => nomatch h⟩ (cons_mem ⟨Try.typeInfo2, Try.underlying2, fun h => nomatch h⟩ (cons_mem ⟨Try.typeInfo3, Try.underlying3, fun h => nomatch h⟩ (cons_mem ⟨Try.typeInfo4, Try.underlying4, fun h => nomatch h⟩ (cons_mem ⟨Try.typeInfo5, Try.underlying5, fun h => nomatch h⟩ (cons_mem ⟨Try.typeInfo6, Try.underlying6, fun h => nomatch h⟩ (cons_mem ⟨Try.typeInfo7, Try.underlying7, fun _ => ⟨Try.stoodInHeld7, Try.eqGuardType7, plain7⟩⟩ (cons_mem ⟨Try.typeInfo8, Try.underlying8, fun _ => ⟨Try.stoodInHeld8, Try.eqGuardType8, plain8⟩⟩ (cons_mem ⟨Try.typeInfo9, Try.underlying9, fun h => nomatch h⟩ (cons_mem ⟨Try.typeInfo10, Try.underlying10, fun h => nomatch h⟩ (cons_mem ⟨Try.typeInfo11, Try.underlying11, fun h => nomatch h⟩ (cons_mem ⟨Try.typeInfo12, Try.underlying12, fun h => nomatch h⟩ (cons_mem ⟨Try.typeInfo13, Try.underlying13, fun h => nomatch h⟩ (cons_mem ⟨Try.typeInfo14, Try.underlying14, fun h => nomatch h⟩ (cons_mem ⟨Try.typeInfo15, Try.underlying15, fun h => nomatch h⟩ nil_mem)))))))))))))))
theorem plain26 : ∀ f ∈ (Try.prog.fieldsOf 26).toList, f.name ≠ "_" := by
  have e : Try.prog.fieldsOf 26 = match Try.t26.desc with | .struct fs => fs | _ => #[] := by
    unfold Program.fieldsOf; rw [Try.underlying26]; rfl
  rw [e]; decide
theorem plain27 : ∀ f ∈ (Try.prog.fieldsOf 27).toList, f.name ≠ "_" := by
  have e : Try.prog.fieldsOf 27 = match Try.t26.desc with | .struct fs => fs | _ => #[] := by
    unfold Program.fieldsOf; rw [Try.underlying27]; rfl
  rw [e]; decide
noncomputable def tyL1 : List (Nat × Ty) := [(16, ⟨Try.t16, Try.t16.desc, false⟩), (17, ⟨Try.t17, Try.t17.desc, false⟩), (18, ⟨Try.t18, Try.t18.desc, false⟩), (19, ⟨Try.t19, Try.t18.desc, false⟩), (20, ⟨Try.t20, Try.t20.desc, false⟩), (21, ⟨Try.t21, Try.t21.desc, false⟩), (22, ⟨Try.t22, Try.t22.desc, false⟩), (23, ⟨Try.t23, Try.t23.desc, false⟩), (24, ⟨Try.t24, Try.t24.desc, false⟩), (25, ⟨Try.t25, Try.t25.desc, false⟩), (26, ⟨Try.t26, Try.t26.desc, true⟩), (27, ⟨Try.t27, Try.t26.desc, true⟩), (28, ⟨Try.t28, Try.t28.desc, false⟩), (29, ⟨Try.t29, Try.t29.desc, false⟩), (30, ⟨Try.t30, Try.t30.desc, false⟩), (31, ⟨Try.t31, Try.t31.desc, false⟩)]
theorem tyL1_ok : ∀ p ∈ tyL1, TyOk p :=
  cons_mem ⟨Try.typeInfo16, Try.underlying16, fun h => nomatch h⟩ (cons_mem ⟨Try.typeInfo17, Try.underlying17, fun h => nomatch h⟩ (cons_mem ⟨Try.typeInfo18, Try.underlying18, fun h => nomatch h⟩ (cons_mem ⟨Try.typeInfo19, Try.underlying19, fun h => nomatch h⟩ (cons_mem ⟨Try.typeInfo20, Try.underlying20, fun h => nomatch h⟩ (cons_mem ⟨Try.typeInfo21, Try.underlying21, fun h => nomatch h⟩ (cons_mem ⟨Try.typeInfo22, Try.underlying22, fun h => nomatch h⟩ (cons_mem ⟨Try.typeInfo23, Try.underlying23, fun h => nomatch h⟩ (cons_mem ⟨Try.typeInfo24, Try.underlying24, fun h => nomatch h⟩ (cons_mem ⟨Try.typeInfo25, Try.underlying25, fun h => nomatch h⟩ (cons_mem ⟨Try.typeInfo26, Try.underlying26, fun _ => ⟨Try.stoodInHeld26, Try.eqGuardType26, plain26⟩⟩ (cons_mem ⟨Try.typeInfo27, Try.underlying27, fun _ => ⟨Try.stoodInHeld27, Try.eqGuardType27, plain27⟩⟩ (cons_mem ⟨Try.typeInfo28, Try.underlying28, fun h => nomatch h⟩ (cons_mem ⟨Try.typeInfo29, Try.underlying29, fun h => nomatch h⟩ (cons_mem ⟨Try.typeInfo30, Try.underlying30, fun h => nomatch h⟩ (cons_mem ⟨Try.typeInfo31, Try.underlying31, fun h => nomatch h⟩ nil_mem)))))))))))))))
theorem plain33 : ∀ f ∈ (Try.prog.fieldsOf 33).toList, f.name ≠ "_" := by
  have e : Try.prog.fieldsOf 33 = match Try.t33.desc with | .struct fs => fs | _ => #[] := by
    unfold Program.fieldsOf; rw [Try.underlying33]; rfl
  rw [e]; decide
theorem plain34 : ∀ f ∈ (Try.prog.fieldsOf 34).toList, f.name ≠ "_" := by
  have e : Try.prog.fieldsOf 34 = match Try.t33.desc with | .struct fs => fs | _ => #[] := by
    unfold Program.fieldsOf; rw [Try.underlying34]; rfl
  rw [e]; decide
theorem plain37 : ∀ f ∈ (Try.prog.fieldsOf 37).toList, f.name ≠ "_" := by
  have e : Try.prog.fieldsOf 37 = match Try.t37.desc with | .struct fs => fs | _ => #[] := by
    unfold Program.fieldsOf; rw [Try.underlying37]; rfl
  rw [e]; decide
theorem plain38 : ∀ f ∈ (Try.prog.fieldsOf 38).toList, f.name ≠ "_" := by
  have e : Try.prog.fieldsOf 38 = match Try.t37.desc with | .struct fs => fs | _ => #[] := by
    unfold Program.fieldsOf; rw [Try.underlying38]; rfl
  rw [e]; decide
theorem plain39 : ∀ f ∈ (Try.prog.fieldsOf 39).toList, f.name ≠ "_" := by
  have e : Try.prog.fieldsOf 39 = match Try.t39.desc with | .struct fs => fs | _ => #[] := by
    unfold Program.fieldsOf; rw [Try.underlying39]; rfl
  rw [e]; decide
theorem plain40 : ∀ f ∈ (Try.prog.fieldsOf 40).toList, f.name ≠ "_" := by
  have e : Try.prog.fieldsOf 40 = match Try.t39.desc with | .struct fs => fs | _ => #[] := by
    unfold Program.fieldsOf; rw [Try.underlying40]; rfl
  rw [e]; decide
noncomputable def tyL2 : List (Nat × Ty) := [(32, ⟨Try.t32, Try.t32.desc, false⟩), (33, ⟨Try.t33, Try.t33.desc, true⟩), (34, ⟨Try.t34, Try.t33.desc, true⟩), (35, ⟨Try.t35, Try.t35.desc, false⟩), (36, ⟨Try.t36, Try.t36.desc, false⟩), (37, ⟨Try.t37, Try.t37.desc, true⟩), (38, ⟨Try.t38, Try.t37.desc, true⟩), (39, ⟨Try.t39, Try.t39.desc, true⟩), (40, ⟨Try.t40, Try.t39.desc, true⟩), (41, ⟨Try.t41, Try.t41.desc, false⟩), (42, ⟨Try.t42, Try.t42.desc, false⟩), (43, ⟨Try.t43, Try.t43.desc, false⟩), (44, ⟨Try.t44, Try.t44.desc, false⟩), (45, ⟨Try.t45, Try.t45.desc, false⟩), (46, ⟨Try.t46, Try.t46.desc, false⟩), (47, ⟨Try.t47, Try.t47.desc, false⟩)]
theorem tyL2_ok : ∀ p ∈ tyL2, TyOk p :=
  cons_mem ⟨Try.typeInfo32, Try.underlying32, fun h => nomatch h⟩ (cons_mem ⟨Try.typeInfo33, Try.underlying33, fun _ => ⟨Try.stoodInHeld33, Try.eqGuardType33, plain33⟩⟩ (cons_mem ⟨Try.typeInfo34, Try.underlying34, fun _ => ⟨Try.stoodInHeld34, Try.eqGuardType34, plain34⟩⟩ (cons_mem ⟨Try.typeInfo35, Try.underlying35, fun h => nomatch h⟩ (cons_mem ⟨Try.typeInfo36, Try.underlying36, fun h => nomatch h⟩ (cons_mem ⟨Try.typeInfo37, Try.underlying37, fun _ => ⟨Try.stoodInHeld37, Try.eqGuardType37, plain37⟩⟩ (cons_mem ⟨Try.typeInfo38, Try.underlying38, fun _ => ⟨Try.stoodInHeld38, Try.eqGuardType38, plain38⟩⟩ (cons_mem ⟨Try.typeInfo39, Try.underlying39, fun _ => ⟨Try.stoodInHeld39, Try.eqGuardType39, plain39⟩⟩ (cons_mem ⟨Try.typeInfo40, Try.underlying40, fun _ => ⟨Try.stoodInHeld40, Try.eqGuardType40, plain40⟩⟩ (cons_mem ⟨Try.typeInfo41, Try.underlying41, fun h => nomatch h⟩ (cons_mem ⟨Try.typeInfo42, Try.underlying42, fun h => nomatch h⟩ (cons_mem ⟨Try.typeInfo43, Try.underlying43, fun h => nomatch h⟩ (cons_mem ⟨Try.typeInfo44, Try.underlying44, fun h => nomatch h⟩ (cons_mem ⟨Try.typeInfo45, Try.underlying45, fun h => nomatch h⟩ (cons_mem ⟨Try.typeInfo46, Try.underlying46, fun h => nomatch h⟩ (cons_mem ⟨Try.typeInfo47, Try.underlying47, fun h => nomatch h⟩ nil_mem)))))))))))))))
theorem plain49 : ∀ f ∈ (Try.prog.fieldsOf 49).toList, f.name ≠ "_" := by
  have e : Try.prog.fieldsOf 49 = match Try.t49.desc with | .struct fs => fs | _ => #[] := by
    unfold Program.fieldsOf; rw [Try.underlying49]; rfl
  rw [e]; decide
theorem plain50 : ∀ f ∈ (Try.prog.fieldsOf 50).toList, f.name ≠ "_" := by
  have e : Try.prog.fieldsOf 50 = match Try.t49.desc with | .struct fs => fs | _ => #[] := by
    unfold Program.fieldsOf; rw [Try.underlying50]; rfl
  rw [e]; decide
theorem plain57 : ∀ f ∈ (Try.prog.fieldsOf 57).toList, f.name ≠ "_" := by
  have e : Try.prog.fieldsOf 57 = match Try.t57.desc with | .struct fs => fs | _ => #[] := by
    unfold Program.fieldsOf; rw [Try.underlying57]; rfl
  rw [e]; decide
theorem plain58 : ∀ f ∈ (Try.prog.fieldsOf 58).toList, f.name ≠ "_" := by
  have e : Try.prog.fieldsOf 58 = match Try.t57.desc with | .struct fs => fs | _ => #[] := by
    unfold Program.fieldsOf; rw [Try.underlying58]; rfl
  rw [e]; decide
theorem plain60 : ∀ f ∈ (Try.prog.fieldsOf 60).toList, f.name ≠ "_" := by
  have e : Try.prog.fieldsOf 60 = match Try.t60.desc with | .struct fs => fs | _ => #[] := by
    unfold Program.fieldsOf; rw [Try.underlying60]; rfl
  rw [e]; decide
theorem plain61 : ∀ f ∈ (Try.prog.fieldsOf 61).toList, f.name ≠ "_" := by
  have e : Try.prog.fieldsOf 61 = match Try.t60.desc with | .struct fs => fs | _ => #[] := by
    unfold Program.fieldsOf; rw [Try.underlying61]; rfl
  rw [e]; decide
noncomputable def tyL3 : List (Nat × Ty) := [(48, ⟨Try.t48, Try.t48.desc, false⟩), (49, ⟨Try.t49, Try.t49.desc, true⟩), (50, ⟨Try.t50, Try.t49.desc, true⟩), (51, ⟨Try.t51, Try.t51.desc, false⟩), (52, ⟨Try.t52, Try.t52.desc, false⟩), (53, ⟨Try.t53, Try.t53.desc, false⟩), (54, ⟨Try.t54, Try.t54.desc, false⟩), (55, ⟨Try.t55, Try.t55.desc, false⟩), (56, ⟨Try.t56, Try.t56.desc, false⟩), (57, ⟨Try.t57, Try.t57.desc, true⟩), (58, ⟨Try.t58, Try.t57.desc, true⟩), (59, ⟨Try.t59, Try.t59.desc, false⟩), (60, ⟨Try.t60, Try.t60.desc, true⟩), (61, ⟨Try.t61, Try.t60.desc, true⟩), (62, ⟨Try.t62, Try.t62.desc, false⟩), (63, ⟨Try.t63, Try.t63.desc, false⟩)]
theorem tyL3_ok : ∀ p ∈ tyL3, TyOk p :=
  cons_mem ⟨Try.typeInfo48, Try.underlying48, fun h => nomatch h⟩ (cons_mem ⟨Try.typeInfo49, Try.underlying49, fun _ => ⟨Try.stoodInHeld49, Try.eqGuardType49, plain49⟩⟩ (cons_mem ⟨Try.typeInfo50, Try.underlying50, fun _ => ⟨Try.stoodInHeld50, Try.eqGuardType50, plain50⟩⟩ (cons_mem ⟨Try.typeInfo51, Try.underlying51, fun h => nomatch h⟩ (cons_mem ⟨Try.typeInfo52, Try.underlying52, fun h => nomatch h⟩ (cons_mem ⟨Try.typeInfo53, Try.underlying53, fun h => nomatch h⟩ (cons_mem ⟨Try.typeInfo54, Try.underlying54, fun h => nomatch h⟩ (cons_mem ⟨Try.typeInfo55, Try.underlying55, fun h => nomatch h⟩ (cons_mem ⟨Try.typeInfo56, Try.underlying56, fun h => nomatch h⟩ (cons_mem ⟨Try.typeInfo57, Try.underlying57, fun _ => ⟨Try.stoodInHeld57, Try.eqGuardType57, plain57⟩⟩ (cons_mem ⟨Try.typeInfo58, Try.underlying58, fun _ => ⟨Try.stoodInHeld58, Try.eqGuardType58, plain58⟩⟩ (cons_mem ⟨Try.typeInfo59, Try.underlying59, fun h => nomatch h⟩ (cons_mem ⟨Try.typeInfo60, Try.underlying60, fun _ => ⟨Try.stoodInHeld60, Try.eqGuardType60, plain60⟩⟩ (cons_mem ⟨Try.typeInfo61, Try.underlying61, fun _ => ⟨Try.stoodInHeld61, Try.eqGuardType61, plain61⟩⟩ (cons_mem ⟨Try.typeInfo62, Try.underlying62, fun h => nomatch h⟩ (cons_mem ⟨Try.typeInfo63, Try.underlying63, fun h => nomatch h⟩ nil_mem)))))))))))))))
noncomputable def tyL4 : List (Nat × Ty) := [(64, ⟨Try.t64, Try.t64.desc, false⟩), (65, ⟨Try.t65, Try.t65.desc, false⟩), (66, ⟨Try.t66, Try.t66.desc, false⟩), (67, ⟨Try.t67, Try.t67.desc, false⟩), (68, ⟨Try.t68, Try.t68.desc, false⟩), (69, ⟨Try.t69, Try.t69.desc, false⟩), (70, ⟨Try.t70, Try.t70.desc, false⟩), (71, ⟨Try.t71, Try.t71.desc, false⟩), (72, ⟨Try.t72, Try.t72.desc, false⟩), (73, ⟨Try.t73, Try.t73.desc, false⟩), (74, ⟨Try.t74, Try.t74.desc, false⟩), (75, ⟨Try.t75, Try.t75.desc, false⟩), (76, ⟨Try.t76, Try.t3.desc, false⟩), (77, ⟨Try.t77, Try.t77.desc, false⟩), (78, ⟨Try.t78, Try.t78.desc, false⟩), (79, ⟨Try.t79, Try.t79.desc, false⟩)]
theorem tyL4_ok : ∀ p ∈ tyL4, TyOk p :=
  cons_mem ⟨Try.typeInfo64, Try.underlying64, fun h => nomatch h⟩ (cons_mem ⟨Try.typeInfo65, Try.underlying65, fun h => nomatch h⟩ (cons_mem ⟨Try.typeInfo66, Try.underlying66, fun h => nomatch h⟩ (cons_mem ⟨Try.typeInfo67, Try.underlying67, fun h => nomatch h⟩ (cons_mem ⟨Try.typeInfo68, Try.underlying68, fun h => nomatch h⟩ (cons_mem ⟨Try.typeInfo69, Try.underlying69, fun h => nomatch h⟩ (cons_mem ⟨Try.typeInfo70, Try.underlying70, fun h => nomatch h⟩ (cons_mem ⟨Try.typeInfo71, Try.underlying71, fun h => nomatch h⟩ (cons_mem ⟨Try.typeInfo72, Try.underlying72, fun h => nomatch h⟩ (cons_mem ⟨Try.typeInfo73, Try.underlying73, fun h => nomatch h⟩ (cons_mem ⟨Try.typeInfo74, Try.underlying74, fun h => nomatch h⟩ (cons_mem ⟨Try.typeInfo75, Try.underlying75, fun h => nomatch h⟩ (cons_mem ⟨Try.typeInfo76, Try.underlying76, fun h => nomatch h⟩ (cons_mem ⟨Try.typeInfo77, Try.underlying77, fun h => nomatch h⟩ (cons_mem ⟨Try.typeInfo78, Try.underlying78, fun h => nomatch h⟩ (cons_mem ⟨Try.typeInfo79, Try.underlying79, fun h => nomatch h⟩ nil_mem)))))))))))))))
noncomputable def tyL5 : List (Nat × Ty) := [(80, ⟨Try.t80, Try.t80.desc, false⟩), (81, ⟨Try.t81, Try.t81.desc, false⟩), (82, ⟨Try.t82, Try.t82.desc, false⟩), (83, ⟨Try.t83, Try.t83.desc, false⟩), (84, ⟨Try.t84, Try.t84.desc, false⟩), (85, ⟨Try.t85, Try.t85.desc, false⟩), (86, ⟨Try.t86, Try.t86.desc, false⟩), (87, ⟨Try.t87, Try.t86.desc, false⟩), (88, ⟨Try.t88, Try.t88.desc, false⟩), (89, ⟨Try.t89, Try.t89.desc, false⟩), (90, ⟨Try.t90, Try.t90.desc, false⟩), (91, ⟨Try.t91, Try.t91.desc, false⟩), (92, ⟨Try.t92, Try.t92.desc, false⟩), (93, ⟨Try.t93, Try.t93.desc, false⟩), (94, ⟨Try.t94, Try.t94.desc, false⟩), (95, ⟨Try.t95, Try.t95.desc, false⟩)]
theorem tyL5_ok : ∀ p ∈ tyL5, TyOk p :=
  cons_mem ⟨Try.typeInfo80, Try.underlying80, fun h => nomatch h⟩ (cons_mem ⟨Try.typeInfo81, Try.underlying81, fun h => nomatch h⟩ (cons_mem ⟨Try.typeInfo82, Try.underlying82, fun h => nomatch h⟩ (cons_mem ⟨Try.typeInfo83, Try.underlying83, fun h => nomatch h⟩ (cons_mem ⟨Try.typeInfo84, Try.underlying84, fun h => nomatch h⟩ (cons_mem ⟨Try.typeInfo85, Try.underlying85, fun h => nomatch h⟩ (cons_mem ⟨Try.typeInfo86, Try.underlying86, fun h => nomatch h⟩ (cons_mem ⟨Try.typeInfo87, Try.underlying87, fun h => nomatch h⟩ (cons_mem ⟨Try.typeInfo88, Try.underlying88, fun h => nomatch h⟩ (cons_mem ⟨Try.typeInfo89, Try.underlying89, fun h => nomatch h⟩ (cons_mem ⟨Try.typeInfo90, Try.underlying90, fun h => nomatch h⟩ (cons_mem ⟨Try.typeInfo91, Try.underlying91, fun h => nomatch h⟩ (cons_mem ⟨Try.typeInfo92, Try.underlying92, fun h => nomatch h⟩ (cons_mem ⟨Try.typeInfo93, Try.underlying93, fun h => nomatch h⟩ (cons_mem ⟨Try.typeInfo94, Try.underlying94, fun h => nomatch h⟩ (cons_mem ⟨Try.typeInfo95, Try.underlying95, fun h => nomatch h⟩ nil_mem)))))))))))))))
noncomputable def tyL6 : List (Nat × Ty) := [(96, ⟨Try.t96, Try.t96.desc, false⟩), (97, ⟨Try.t97, Try.t97.desc, false⟩), (98, ⟨Try.t98, Try.t98.desc, false⟩), (99, ⟨Try.t99, Try.t98.desc, false⟩), (100, ⟨Try.t100, Try.t100.desc, false⟩), (101, ⟨Try.t101, Try.t101.desc, false⟩), (102, ⟨Try.t102, Try.t101.desc, false⟩), (103, ⟨Try.t103, Try.t103.desc, false⟩), (104, ⟨Try.t104, Try.t5.desc, false⟩), (105, ⟨Try.t105, Try.t5.desc, false⟩), (106, ⟨Try.t106, Try.t106.desc, false⟩), (107, ⟨Try.t107, Try.t107.desc, false⟩), (108, ⟨Try.t108, Try.t21.desc, false⟩), (109, ⟨Try.t109, Try.t21.desc, false⟩), (110, ⟨Try.t110, Try.t110.desc, false⟩), (111, ⟨Try.t111, Try.t110.desc, false⟩)]
theorem tyL6_ok : ∀ p ∈ tyL6, TyOk p :=
  cons_mem ⟨Try.typeInfo96, Try.underlying96, fun h => nomatch h⟩ (cons_mem ⟨Try.typeInfo97, Try.underlying97, fun h => nomatch h⟩ (cons_mem ⟨Try.typeInfo98, Try.underlying98, fun h => nomatch h⟩ (cons_mem ⟨Try.typeInfo99, Try.underlying99, fun h => nomatch h⟩ (cons_mem ⟨Try.typeInfo100, Try.underlying100, fun h => nomatch h⟩ (cons_mem ⟨Try.typeInfo101, Try.underlying101, fun h => nomatch h⟩ (cons_mem ⟨Try.typeInfo102, Try.underlying102, fun h => nomatch h⟩ (cons_mem ⟨Try.typeInfo103, Try.underlying103, fun h => nomatch h⟩ (cons_mem ⟨Try.typeInfo104, Try.underlying104, fun h => nomatch h⟩ (cons_mem ⟨Try.typeInfo105, Try.underlying105, fun h => nomatch h⟩ (cons_mem ⟨Try.typeInfo106, Try.underlying106, fun h => nomatch h⟩ (cons_mem ⟨Try.typeInfo107, Try.underlying107, fun h => nomatch h⟩ (cons_mem ⟨Try.typeInfo108, Try.underlying108, fun h => nomatch h⟩ (cons_mem ⟨Try.typeInfo109, Try.underlying109, fun h => nomatch h⟩ (cons_mem ⟨Try.typeInfo110, Try.underlying110, fun h => nomatch h⟩ (cons_mem ⟨Try.typeInfo111, Try.underlying111, fun h => nomatch h⟩ nil_mem)))))))))))))))
theorem plain112 : ∀ f ∈ (Try.prog.fieldsOf 112).toList, f.name ≠ "_" := by
  have e : Try.prog.fieldsOf 112 = match Try.t112.desc with | .struct fs => fs | _ => #[] := by
    unfold Program.fieldsOf; rw [Try.underlying112]; rfl
  rw [e]; decide
theorem plain113 : ∀ f ∈ (Try.prog.fieldsOf 113).toList, f.name ≠ "_" := by
  have e : Try.prog.fieldsOf 113 = match Try.t112.desc with | .struct fs => fs | _ => #[] := by
    unfold Program.fieldsOf; rw [Try.underlying113]; rfl
  rw [e]; decide
theorem plain114 : ∀ f ∈ (Try.prog.fieldsOf 114).toList, f.name ≠ "_" := by
  have e : Try.prog.fieldsOf 114 = match Try.t114.desc with | .struct fs => fs | _ => #[] := by
    unfold Program.fieldsOf; rw [Try.underlying114]; rfl
  rw [e]; decide
theorem plain115 : ∀ f ∈ (Try.prog.fieldsOf 115).toList, f.name ≠ "_" := by
  have e : Try.prog.fieldsOf 115 = match Try.t114.desc with | .struct fs => fs | _ => #[] := by
    unfold Program.fieldsOf; rw [Try.underlying115]; rfl
  rw [e]; decide
noncomputable def tyL7 : List (Nat × Ty) := [(112, ⟨Try.t112, Try.t112.desc, true⟩), (113, ⟨Try.t113, Try.t112.desc, true⟩), (114, ⟨Try.t114, Try.t114.desc, true⟩), (115, ⟨Try.t115, Try.t114.desc, true⟩), (116, ⟨Try.t116, Try.t116.desc, false⟩)]
theorem tyL7_ok : ∀ p ∈ tyL7, TyOk p :=
  cons_mem ⟨Try.typeInfo112, Try.underlying112, fun _ => ⟨Try.stoodInHeld112, Try.eqGuardType112, plain112⟩⟩ (cons_mem ⟨Try.typeInfo113, Try.underlying113, fun _ => ⟨Try.stoodInHeld113, Try.eqGuardType113, plain113⟩⟩ (cons_mem ⟨Try.typeInfo114, Try.underlying114, fun _ => ⟨Try.stoodInHeld114, Try.eqGuardType114, plain114⟩⟩ (cons_mem ⟨Try.typeInfo115, Try.underlying115, fun _ => ⟨Try.stoodInHeld115, Try.eqGuardType115, plain115⟩⟩ (cons_mem ⟨Try.typeInfo116, Try.underlying116, fun h => nomatch h⟩ nil_mem))))
noncomputable def tyL : List (Nat × Ty) := tyL0 ++ tyL1 ++ tyL2 ++ tyL3 ++ tyL4 ++ tyL5 ++ tyL6 ++ tyL7
theorem tyL_ok : ∀ p ∈ tyL, TyOk p := app_mem (app_mem (app_mem (app_mem (app_mem (app_mem (app_mem (tyL0_ok) tyL1_ok) tyL2_ok) tyL3_ok) tyL4_ok) tyL5_ok) tyL6_ok) tyL7_ok
noncomputable def fnL0 : List (Nat × Func) := [(2, Try.f2), (3, Try.f3), (4, Try.f4), (5, Try.f5), (6, Try.f6), (7, Try.f7), (8, Try.f8), (9, Try.f9), (10, Try.f10), (11, Try.f11), (12, Try.f12), (13, Try.f13), (14, Try.f14), (15, Try.f15), (16, Try.f16), (17, Try.f17)]
theorem fnL0_ok : ∀ p ∈ fnL0, FnOk p :=
  cons_mem ⟨Try.func2, Try.call2⟩ (cons_mem ⟨Try.func3, Try.call3⟩ (cons_mem ⟨Try.func4, Try.call4⟩ (cons_mem ⟨Try.func5, Try.call5⟩ (cons_mem ⟨Try.func6, Try.call6⟩ (cons_mem ⟨Try.func7, Try.call7⟩ (cons_mem ⟨Try.func8, Try.call8⟩ (cons_mem ⟨Try.func9, Try.call9⟩ (cons_mem ⟨Try.func10, Try.call10⟩ (cons_mem ⟨Try.func11, Try.call11⟩ (cons_mem ⟨Try.func12, Try.call12⟩ (cons_mem ⟨Try.func13, Try.call13⟩ (cons_mem ⟨Try.func14, Try.call14⟩ (cons_mem ⟨Try.func15, Try.call15⟩ (cons_mem ⟨Try.func16, Try.call16⟩ (cons_mem ⟨Try.func17, Try.call17⟩ (nil_mem))))))))))))))))
noncomputable def fnL1 : List (Nat × Func) := [(18, Try.f18), (19, Try.f19), (20, Try.f20), (21, Try.f21), (22, Try.f22), (23, Try.f23), (24, Try.f24), (25, Try.f25), (26, Try.f26), (27, Try.f27), (28, Try.f28), (29, Try.f29), (30, Try.f30), (31, Try.f31), (32, Try.f32), (33, Try.f33)]
theorem fnL1_ok : ∀ p ∈ fnL1, FnOk p :=
  cons_mem ⟨Try.func18, Try.call18⟩ (cons_mem ⟨Try.func19, Try.call19⟩ (cons_mem ⟨Try.func20, Try.call20⟩ (cons_mem ⟨Try.func21, Try.call21⟩ (cons_mem ⟨Try.func22, Try.call22⟩ (cons_mem ⟨Try.func23, Try.call23⟩ (cons_mem ⟨Try.func24, Try.call24⟩ (cons_mem ⟨Try.func25, Try.call25⟩ (cons_mem ⟨Try.func26, Try.call26⟩ (cons_mem ⟨Try.func27, Try.call27⟩ (cons_mem ⟨Try.func28, Try.call28⟩ (cons_mem ⟨Try.func29, Try.call29⟩ (cons_mem ⟨Try.func30, Try.call30⟩ (cons_mem ⟨Try.func31, Try.call31⟩ (cons_mem ⟨Try.func32, Try.call32⟩ (cons_mem ⟨Try.func33, Try.call33⟩ (nil_mem))))))))))))))))
noncomputable def fnL2 : List (Nat × Func) := [(34, Try.f34), (35, Try.f35), (36, Try.f36), (37, Try.f37), (38, Try.f38)]
theorem fnL2_ok : ∀ p ∈ fnL2, FnOk p :=
  cons_mem ⟨Try.func34, Try.call34⟩ (cons_mem ⟨Try.func35, Try.call35⟩ (cons_mem ⟨Try.func36, Try.call36⟩ (cons_mem ⟨Try.func37, Try.call37⟩ (cons_mem ⟨Try.func38, Try.call38⟩ (nil_mem)))))
noncomputable def fnL : List (Nat × Func) := fnL0 ++ fnL1 ++ fnL2
theorem fnL_ok : ∀ p ∈ fnL, FnOk p := app_mem (app_mem (fnL0_ok) fnL1_ok) fnL2_ok
noncomputable def tyT : Tr Ty := Tr.ofL tyL
noncomputable def fnT : Tr Func := Tr.ofL fnL
noncomputable def tabW (orc : List Orc) (mmo : List Mmo) (ctr : List Ctr) (ext : List Xo) : Tab := ⟨tyT, fnT, orc, mmo, ctr, ext⟩
theorem tyT_eq {orc : List Orc} {mmo : List Mmo} {ctr : List Ctr} {ext : List Xo} : (tabW orc mmo ctr ext).ty = Tr.ofL tyL := by
  unfold tabW tyT
  dsimp only
theorem fnT_eq {orc : List Orc} {mmo : List Mmo} {ctr : List Ctr} {ext : List Xo} : (tabW orc mmo ctr ext).fn = Tr.ofL fnL := by
  unfold tabW fnT
  dsimp only
theorem tab_ok {σ : Sg} {orc : List Orc} {mmo : List Mmo} {ctr : List Ctr} {ext : List Xo}
    (h1 : ∀ e ∈ orc, flatV e.v = true ∧ ∃ a b, (∀ E, den σ E e.x = .int .i64 a) ∧ (∀ E, den σ E e.y = .int .i64 b) ∧ intB e.op .i64 a b = some (den σ E00 e.v))
    (h2 : ∀ e ∈ mmo, flatV e.v = true ∧ ∃ a b, (∀ E, den σ E e.x = .int .i64 a) ∧ (∀ E, den σ E e.y = .int .i64 b) ∧ den σ E00 e.v = .int .i64 (if e.mx then (if b > a then b else a) else (if b < a then b else a)))
    (h3 : ∀ e ∈ ctr, flatV e.v = true ∧ e.args.all flatV = true ∧ ∀ w, Calls Try.prog e.f (e.args.map (den σ E00)).toArray w fun r w' => r = .returned (den σ E00 e.v) ∧ RowKit.Below w.heap.size w w')
    (h4 : ∀ e ∈ ext, ∀ (ρ : Operand → Value) (o : Oper) (w : World) (E : Env), tagOf o.op = some (e.tag, e.t) → o.op.operands.toList.map ρ = e.vs.map (den σ E) → (∀ p ∈ σ.x, w.heap[p.1]? = some p.2) → (execOp ρ o).run Try.prog w = .ok (.value (den σ E e.v)) w) :
    (tabW orc mmo ctr ext).Ok σ Try.prog where
  info t y h := (tyL_ok (t, y) (Tr.get_of_eq tyT_eq h)).1
  desc t y h := (tyL_ok (t, y) (Tr.get_of_eq tyT_eq h)).2.1
  plain t y h := (tyL_ok (t, y) (Tr.get_of_eq tyT_eq h)).2.2
  fn f g h := (fnL_ok (f, g) (Tr.get_of_eq fnT_eq h)).1
  call f g h := (fnL_ok (f, g) (Tr.get_of_eq fnT_eq h)).2
  mixed := by kernel_rfl
  orc := h1
  mmo := h2
  ctr := h3
  ext := h4
theorem tab_plain {σ : Sg} : (tabW [] [] [] []).Ok σ Try.prog := tab_ok nil_mem nil_mem nil_mem nil_mem
end Go.Proofs.Ytjcjnmphneafoaa
