/-
  The tables of this seat's program, for the runner of closed code.
-/
import Derived.Test.YtldegofgggjpeaaSx19
import Derived.KernelRfl
import Derived.Test.YtldegofgggjpeaaProg
namespace Go.Proofs.Ytldegofgggjpeaa
open Go Go.Proofs.Ytldegofgggjpeaa.Sx
def TyOk (p : Nat × Ty) : Prop := (∀ w, (typeInfo p.1).run Try.prog w = .ok p.2.info w) ∧ Try.prog.underlying p.1 = some p.2.desc ∧ (p.2.plain = true → Try.prog.stoodInHeld p.1 = false ∧ Try.prog.eqGuardType Try.prog.depth p.1 = false ∧ ∀ f ∈ (Try.prog.fieldsOf p.1).toList, f.name ≠ "_")
def FnOk (p : Nat × Func) : Prop := Try.prog.funcs[p.1]? = some p.2 ∧ ∀ args w, (callFunc p.1 args).run Try.prog w = .ok (.enter p.1 args) w
theorem cons_mem {α : Type} {p : α → Prop} {a : α} {l : List α} (h : p a) (k : ∀ x ∈ l, p x) : ∀ x ∈ a :: l, p x := fun x hx => by
  rcases List.mem_cons.1 hx with rfl | hx
  · exact h
  · exact k x hx
theorem nil_mem {α : Type} {p : α → Prop} : ∀ x ∈ ([] : List α), p x := fun x hx => nomatch hx
theorem app_mem {α : Type} {p : α → Prop} {l m : List α} (h : ∀ x ∈ l, p x) (k : ∀ x ∈ m, p x) : ∀ x ∈ l ++ m, p x := fun x hx => (List.mem_append.1 hx).elim (h x) (k x)
theorem plain7 : ∀ f ∈ (Try.prog.fieldsOf 7).toList, f.name ≠ "_" := by
  have e : Try.prog.fieldsOf 7 = match Try.t7.desc with | .struct fs => fs | _ => #[] := by
    unfold Program.fieldsOf; rw [Try.underlying7]; rfl
  rw [e]; decide
theorem plain8 : ∀ f ∈ (Try.prog.fieldsOf 8).toList, f.name ≠ "_" := by
  have e : Try.prog.fieldsOf 8 = match Try.t7.desc with | .struct fs => fs | _ => #[] := by
    unfold Program.fieldsOf; rw [Try.underlying8]; rfl
  rw [e]; decide
noncomputable def tyL0 : List (Nat × Ty) := [(0, ⟨Try.t0, Try.t0.desc, false⟩), (1, ⟨Try.t1, Try.t1.desc, false⟩), (2, ⟨Try.t2, Try.t2.desc, false⟩), (3, ⟨Try.t3, Try.t3.desc, false⟩), (4, ⟨Try.t4, Try.t4.desc, false⟩), (5, ⟨Try.t5, Try.t5.desc, false⟩), (6, ⟨Try.t6, Try.t5.desc, false⟩), (7, ⟨Try.t7, Try.t7.desc, true⟩), (8, ⟨Try.t8, Try.t7.desc, true⟩), (9, ⟨Try.t9, Try.t9.desc, false⟩), (10, ⟨Try.t10, Try.t9.desc, false⟩), (11, ⟨Try.t11, Try.t9.desc, false⟩), (12, ⟨Try.t12, Try.t12.desc, false⟩), (13, ⟨Try.t13, Try.t13.desc, false⟩), (14, ⟨Try.t14, Try.t13.desc, false⟩), (15, ⟨Try.t15, Try.t15.desc, false⟩)]
theorem tyL0_ok : ∀ p ∈ tyL0, TyOk p :=
  cons_mem ⟨Try.typeInfo0, Try.underlying0, fun h => nomatch h⟩ (cons_mem ⟨Try.typeInfo1, Try.underlying1, fun h => nomatch h⟩ (cons_mem ⟨Try.typeInfo2, Try.underlying2, fun h => nomatch h⟩ (cons_mem ⟨Try.typeInfo3, Try.underlying3, fun h => nomatch h⟩ (cons_mem ⟨Try.typeInfo4, Try.underlying4, fun h => nomatch h⟩ (cons_mem ⟨Try.typeInfo5, Try.underlying5, fun h => nomatch h⟩ (cons_mem ⟨Try.typeInfo6, Try.underlying6, fun h => nomatch h⟩ (cons_mem ⟨Try.typeInfo7, Try.underlying7, fun _ => ⟨Try.stoodInHeld7, Try.eqGuardType7, plain7⟩⟩ (cons_mem ⟨Try.typeInfo8, Try.underlying8, fun _ => ⟨Try.stoodInHeld8, Try.eqGuardType8, plain8⟩⟩ (cons_mem ⟨Try.typeInfo9, Try.underlying9, fun h => nomatch h⟩ (cons_mem ⟨Try.typeInfo10, Try.underlying10, fun h => nomatch h⟩ (cons_mem ⟨Try.typeInfo11, Try.underlying11, fun h => nomatch h⟩ (cons_mem ⟨Try.typeInfo12, Try.underlying12, fun h => nomatch h⟩ (cons_mem ⟨Try.typeInfo13, Try.underlying13, fun h => nomatch h⟩ (cons_mem ⟨Try.typeInfo14, Try.underlying14, fun h => nomatch h⟩ (cons_mem ⟨Try.typeInfo15, Try.underlying15, fun h => nomatch h⟩ nil_mem)))))))))))))))
theorem plain24 : ∀ f ∈ (Try.prog.fieldsOf 24).toList, f.name ≠ "_" := by
  have e : Try.prog.fieldsOf 24 = match Try.t24.desc with | .struct fs => fs | _ => #[] := by
    unfold Program.fieldsOf; rw [Try.underlying24]; rfl
  rw [e]; decide
theorem plain25 : ∀ f ∈ (Try.prog.fieldsOf 25).toList, f.name ≠ "_" := by
  have e : Try.prog.fieldsOf 25 = match Try.t24.desc with | .struct fs => fs | _ => #[] := by
    unfold Program.fieldsOf; rw [Try.underlying25]; rfl
  rw [e]; decide
theorem plain26 : ∀ f ∈ (Try.prog.fieldsOf 26).toList, f.name ≠ "_" := by
  have e : Try.prog.fieldsOf 26 = match Try.t26.desc with | .struct fs => fs | _ => #[] := by
    unfold Program.fieldsOf; rw [Try.underlying26]; rfl
  rw [e]; decide
theorem plain27 : ∀ f ∈ (Try.prog.fieldsOf 27).toList, f.name ≠ "_" := by
  have e : Try.prog.fieldsOf 27 = match Try.t26.desc with | .struct fs => fs | _ => #[] := by
    unfold Program.fieldsOf; rw [Try.underlying27]; rfl
  rw [e]; decide
theorem plain31 : ∀ f ∈ (Try.prog.fieldsOf 31).toList, f.name ≠ "_" := by
  have e : Try.prog.fieldsOf 31 = match Try.t31.desc with | .struct fs => fs | _ => #[] := by
    unfold Program.fieldsOf; rw [Try.underlying31]; rfl
  rw [e]; decide
noncomputable def tyL1 : List (Nat × Ty) := [(16, ⟨Try.t16, Try.t16.desc, false⟩), (17, ⟨Try.t17, Try.t17.desc, false⟩), (18, ⟨Try.t18, Try.t18.desc, false⟩), (19, ⟨Try.t19, Try.t18.desc, false⟩), (20, ⟨Try.t20, Try.t20.desc, false⟩), (21, ⟨Try.t21, Try.t21.desc, false⟩), (22, ⟨Try.t22, Try.t22.desc, false⟩), (23, ⟨Try.t23, Try.t23.desc, false⟩), (24, ⟨Try.t24, Try.t24.desc, true⟩), (25, ⟨Try.t25, Try.t24.desc, true⟩), (26, ⟨Try.t26, Try.t26.desc, true⟩), (27, ⟨Try.t27, Try.t26.desc, true⟩), (28, ⟨Try.t28, Try.t28.desc, false⟩), (29, ⟨Try.t29, Try.t29.desc, false⟩), (30, ⟨Try.t30, Try.t30.desc, false⟩), (31, ⟨Try.t31, Try.t31.desc, true⟩)]
theorem tyL1_ok : ∀ p ∈ tyL1, TyOk p :=
  cons_mem ⟨Try.typeInfo16, Try.underlying16, fun h => nomatch h⟩ (cons_mem ⟨Try.typeInfo17, Try.underlying17, fun h => nomatch h⟩ (cons_mem ⟨Try.typeInfo18, Try.underlying18, fun h => nomatch h⟩ (cons_mem ⟨Try.typeInfo19, Try.underlying19, fun h => nomatch h⟩ (cons_mem ⟨Try.typeInfo20, Try.underlying20, fun h => nomatch h⟩ (cons_mem ⟨Try.typeInfo21, Try.underlying21, fun h => nomatch h⟩ (cons_mem ⟨Try.typeInfo22, Try.underlying22, fun h => nomatch h⟩ (cons_mem ⟨Try.typeInfo23, Try.underlying23, fun h => nomatch h⟩ (cons_mem ⟨Try.typeInfo24, Try.underlying24, fun _ => ⟨Try.stoodInHeld24, Try.eqGuardType24, plain24⟩⟩ (cons_mem ⟨Try.typeInfo25, Try.underlying25, fun _ => ⟨Try.stoodInHeld25, Try.eqGuardType25, plain25⟩⟩ (cons_mem ⟨Try.typeInfo26, Try.underlying26, fun _ => ⟨Try.stoodInHeld26, Try.eqGuardType26, plain26⟩⟩ (cons_mem ⟨Try.typeInfo27, Try.underlying27, fun _ => ⟨Try.stoodInHeld27, Try.eqGuardType27, plain27⟩⟩ (cons_mem ⟨Try.typeInfo28, Try.underlying28, fun h => nomatch h⟩ (cons_mem ⟨Try.typeInfo29, Try.underlying29, fun h => nomatch h⟩ (cons_mem ⟨Try.typeInfo30, Try.underlying30, fun h => nomatch h⟩ (cons_mem ⟨Try.typeInfo31, Try.underlying31, fun _ => ⟨Try.stoodInHeld31, Try.eqGuardType31, plain31⟩⟩ nil_mem)))))))))))))))
theorem plain32 : ∀ f ∈ (Try.prog.fieldsOf 32).toList, f.name ≠ "_" := by
  have e : Try.prog.fieldsOf 32 = match Try.t31.desc with | .struct fs => fs | _ => #[] := by
    unfold Program.fieldsOf; rw [Try.underlying32]; rfl
  rw [e]; decide
theorem plain34 : ∀ f ∈ (Try.prog.fieldsOf 34).toList, f.name ≠ "_" := by
  have e : Try.prog.fieldsOf 34 = match Try.t34.desc with | .struct fs => fs | _ => #[] := by
    unfold Program.fieldsOf; rw [Try.underlying34]; rfl
  rw [e]; decide
theorem plain35 : ∀ f ∈ (Try.prog.fieldsOf 35).toList, f.name ≠ "_" := by
  have e : Try.prog.fieldsOf 35 = match Try.t34.desc with | .struct fs => fs | _ => #[] := by
    unfold Program.fieldsOf; rw [Try.underlying35]; rfl
  rw [e]; decide
theorem plain43 : ∀ f ∈ (Try.prog.fieldsOf 43).toList, f.name ≠ "_" := by
  have e : Try.prog.fieldsOf 43 = match Try.t43.desc with | .struct fs => fs | _ => #[] := by
    unfold Program.fieldsOf; rw [Try.underlying43]; rfl
  rw [e]; decide
theorem plain44 : ∀ f ∈ (Try.prog.fieldsOf 44).toList, f.name ≠ "_" := by
  have e : Try.prog.fieldsOf 44 = match Try.t43.desc with | .struct fs => fs | _ => #[] := by
    unfold Program.fieldsOf; rw [Try.underlying44]; rfl
  rw [e]; decide
noncomputable def tyL2 : List (Nat × Ty) := [(32, ⟨Try.t32, Try.t31.desc, true⟩), (33, ⟨Try.t33, Try.t33.desc, false⟩), (34, ⟨Try.t34, Try.t34.desc, true⟩), (35, ⟨Try.t35, Try.t34.desc, true⟩), (36, ⟨Try.t36, Try.t36.desc, false⟩), (37, ⟨Try.t37, Try.t37.desc, false⟩), (38, ⟨Try.t38, Try.t38.desc, false⟩), (39, ⟨Try.t39, Try.t39.desc, false⟩), (40, ⟨Try.t40, Try.t40.desc, false⟩), (41, ⟨Try.t41, Try.t41.desc, false⟩), (42, ⟨Try.t42, Try.t42.desc, false⟩), (43, ⟨Try.t43, Try.t43.desc, true⟩), (44, ⟨Try.t44, Try.t43.desc, true⟩), (45, ⟨Try.t45, Try.t45.desc, false⟩), (46, ⟨Try.t46, Try.t46.desc, false⟩), (47, ⟨Try.t47, Try.t47.desc, false⟩)]
theorem tyL2_ok : ∀ p ∈ tyL2, TyOk p :=
  cons_mem ⟨Try.typeInfo32, Try.underlying32, fun _ => ⟨Try.stoodInHeld32, Try.eqGuardType32, plain32⟩⟩ (cons_mem ⟨Try.typeInfo33, Try.underlying33, fun h => nomatch h⟩ (cons_mem ⟨Try.typeInfo34, Try.underlying34, fun _ => ⟨Try.stoodInHeld34, Try.eqGuardType34, plain34⟩⟩ (cons_mem ⟨Try.typeInfo35, Try.underlying35, fun _ => ⟨Try.stoodInHeld35, Try.eqGuardType35, plain35⟩⟩ (cons_mem ⟨Try.typeInfo36, Try.underlying36, fun h => nomatch h⟩ (cons_mem ⟨Try.typeInfo37, Try.underlying37, fun h => nomatch h⟩ (cons_mem ⟨Try.typeInfo38, Try.underlying38, fun h => nomatch h⟩ (cons_mem ⟨Try.typeInfo39, Try.underlying39, fun h => nomatch h⟩ (cons_mem ⟨Try.typeInfo40, Try.underlying40, fun h => nomatch h⟩ (cons_mem ⟨Try.typeInfo41, Try.underlying41, fun h => nomatch h⟩ (cons_mem ⟨Try.typeInfo42, Try.underlying42, fun h => nomatch h⟩ (cons_mem ⟨Try.typeInfo43, Try.underlying43, fun _ => ⟨Try.stoodInHeld43, Try.eqGuardType43, plain43⟩⟩ (cons_mem ⟨Try.typeInfo44, Try.underlying44, fun _ => ⟨Try.stoodInHeld44, Try.eqGuardType44, plain44⟩⟩ (cons_mem ⟨Try.typeInfo45, Try.underlying45, fun h => nomatch h⟩ (cons_mem ⟨Try.typeInfo46, Try.underlying46, fun h => nomatch h⟩ (cons_mem ⟨Try.typeInfo47, Try.underlying47, fun h => nomatch h⟩ nil_mem)))))))))))))))
theorem plain49 : ∀ f ∈ (Try.prog.fieldsOf 49).toList, f.name ≠ "_" := by
  have e : Try.prog.fieldsOf 49 = match Try.t49.desc with | .struct fs => fs | _ => #[] := by
    unfold Program.fieldsOf; rw [Try.underlying49]; rfl
  rw [e]; decide
theorem plain50 : ∀ f ∈ (Try.prog.fieldsOf 50).toList, f.name ≠ "_" := by
  have e : Try.prog.fieldsOf 50 = match Try.t49.desc with | .struct fs => fs | _ => #[] := by
    unfold Program.fieldsOf; rw [Try.underlying50]; rfl
  rw [e]; decide
theorem plain54 : ∀ f ∈ (Try.prog.fieldsOf 54).toList, f.name ≠ "_" := by
  have e : Try.prog.fieldsOf 54 = match Try.t54.desc with | .struct fs => fs | _ => #[] := by
    unfold Program.fieldsOf; rw [Try.underlying54]; rfl
  rw [e]; decide
theorem plain55 : ∀ f ∈ (Try.prog.fieldsOf 55).toList, f.name ≠ "_" := by
  have e : Try.prog.fieldsOf 55 = match Try.t54.desc with | .struct fs => fs | _ => #[] := by
    unfold Program.fieldsOf; rw [Try.underlying55]; rfl
  rw [e]; decide
theorem plain61 : ∀ f ∈ (Try.prog.fieldsOf 61).toList, f.name ≠ "_" := by
  have e : Try.prog.fieldsOf 61 = match Try.t61.desc with | .struct fs => fs | _ => #[] := by
    unfold Program.fieldsOf; rw [Try.underlying61]; rfl
  rw [e]; decide
theorem plain62 : ∀ f ∈ (Try.prog.fieldsOf 62).toList, f.name ≠ "_" := by
  have e : Try.prog.fieldsOf 62 = match Try.t61.desc with | .struct fs => fs | _ => #[] := by
    unfold Program.fieldsOf; rw [Try.underlying62]; rfl
  rw [e]; decide
noncomputable def tyL3 : List (Nat × Ty) := [(48, ⟨Try.t48, Try.t48.desc, false⟩), (49, ⟨Try.t49, Try.t49.desc, true⟩), (50, ⟨Try.t50, Try.t49.desc, true⟩), (51, ⟨Try.t51, Try.t51.desc, false⟩), (52, ⟨Try.t52, Try.t52.desc, false⟩), (53, ⟨Try.t53, Try.t53.desc, false⟩), (54, ⟨Try.t54, Try.t54.desc, true⟩), (55, ⟨Try.t55, Try.t54.desc, true⟩), (56, ⟨Try.t56, Try.t56.desc, false⟩), (57, ⟨Try.t57, Try.t57.desc, false⟩), (58, ⟨Try.t58, Try.t58.desc, false⟩), (59, ⟨Try.t59, Try.t59.desc, false⟩), (60, ⟨Try.t60, Try.t60.desc, false⟩), (61, ⟨Try.t61, Try.t61.desc, true⟩), (62, ⟨Try.t62, Try.t61.desc, true⟩), (63, ⟨Try.t63, Try.t63.desc, false⟩)]
theorem tyL3_ok : ∀ p ∈ tyL3, TyOk p :=
  cons_mem ⟨Try.typeInfo48, Try.underlying48, fun h => nomatch h⟩ (cons_mem ⟨Try.typeInfo49, Try.underlying49, fun _ => ⟨Try.stoodInHeld49, Try.eqGuardType49, plain49⟩⟩ (cons_mem ⟨Try.typeInfo50, Try.underlying50, fun _ => ⟨Try.stoodInHeld50, Try.eqGuardType50, plain50⟩⟩ (cons_mem ⟨Try.typeInfo51, Try.underlying51, fun h => nomatch h⟩ (cons_mem ⟨Try.typeInfo52, Try.underlying52, fun h => nomatch h⟩ (cons_mem ⟨Try.typeInfo53, Try.underlying53, fun h => nomatch h⟩ (cons_mem ⟨Try.typeInfo54, Try.underlying54, fun _ => ⟨Try.stoodInHeld54, Try.eqGuardType54, plain54⟩⟩ (cons_mem ⟨Try.typeInfo55, Try.underlying55, fun _ => ⟨Try.stoodInHeld55, Try.eqGuardType55, plain55⟩⟩ (cons_mem ⟨Try.typeInfo56, Try.underlying56, fun h => nomatch h⟩ (cons_mem ⟨Try.typeInfo57, Try.underlying57, fun h => nomatch h⟩ (cons_mem ⟨Try.typeInfo58, Try.underlying58, fun h => nomatch h⟩ (cons_mem ⟨Try.typeInfo59, Try.underlying59, fun h => nomatch h⟩ (cons_mem ⟨Try.typeInfo60, Try.underlying60, fun h => nomatch h⟩ (cons_mem ⟨Try.typeInfo61, Try.underlying61, fun _ => ⟨Try.stoodInHeld61, Try.eqGuardType61, plain61⟩⟩ (cons_mem ⟨Try.typeInfo62, Try.underlying62, fun _ => ⟨Try.stoodInHeld62, Try.eqGuardType62, plain62⟩⟩ (cons_mem ⟨Try.typeInfo63, Try.underlying63, fun h => nomatch h⟩ nil_mem)))))))))))))))
noncomputable def tyL4 : List (Nat × Ty) := [(64, ⟨Try.t64, Try.t64.desc, false⟩), (65, ⟨Try.t65, Try.t65.desc, false⟩), (66, ⟨Try.t66, Try.t66.desc, false⟩), (67, ⟨Try.t67, Try.t67.desc, false⟩), (68, ⟨Try.t68, Try.t68.desc, false⟩), (69, ⟨Try.t69, Try.t69.desc, false⟩), (70, ⟨Try.t70, Try.t70.desc, false⟩), (71, ⟨Try.t71, Try.t71.desc, false⟩), (72, ⟨Try.t72, Try.t72.desc, false⟩), (73, ⟨Try.t73, Try.t73.desc, false⟩), (74, ⟨Try.t74, Try.t74.desc, false⟩), (75, ⟨Try.t75, Try.t75.desc, false⟩), (76, ⟨Try.t76, Try.t76.desc, false⟩), (77, ⟨Try.t77, Try.t77.desc, false⟩), (78, ⟨Try.t78, Try.t78.desc, false⟩), (79, ⟨Try.t79, Try.t79.desc, false⟩)]
theorem tyL4_ok : ∀ p ∈ tyL4, TyOk p :=
  cons_mem ⟨Try.typeInfo64, Try.underlying64, fun h => nomatch h⟩ (cons_mem ⟨Try.typeInfo65, Try.underlying65, fun h => nomatch h⟩ (cons_mem ⟨Try.typeInfo66, Try.underlying66, fun h => nomatch h⟩ (cons_mem ⟨Try.typeInfo67, Try.underlying67, fun h => nomatch h⟩ (cons_mem ⟨Try.typeInfo68, Try.underlying68, fun h => nomatch h⟩ (cons_mem ⟨Try.typeInfo69, Try.underlying69, fun h => nomatch h⟩ (cons_mem ⟨Try.typeInfo70, Try.underlying70, fun h => nomatch h⟩ (cons_mem ⟨Try.typeInfo71, Try.underlying71, fun h => nomatch h⟩ (cons_mem ⟨Try.typeInfo72, Try.underlying72, fun h => nomatch h⟩ (cons_mem ⟨Try.typeInfo73, Try.underlying73, fun h => nomatch h⟩ (cons_mem ⟨Try.typeInfo74, Try.underlying74, fun h => nomatch h⟩ (cons_mem ⟨Try.typeInfo75, Try.underlying75, fun h => nomatch h⟩ (cons_mem ⟨Try.typeInfo76, Try.underlying76, fun h => nomatch h⟩ (cons_mem ⟨Try.typeInfo77, Try.underlying77, fun h => nomatch h⟩ (cons_mem ⟨Try.typeInfo78, Try.underlying78, fun h => nomatch h⟩ (cons_mem ⟨Try.typeInfo79, Try.underlying79, fun h => nomatch h⟩ nil_mem)))))))))))))))
theorem plain80 : ∀ f ∈ (Try.prog.fieldsOf 80).toList, f.name ≠ "_" := by
  have e : Try.prog.fieldsOf 80 = match Try.t80.desc with | .struct fs => fs | _ => #[] := by
    unfold Program.fieldsOf; rw [Try.underlying80]; rfl
  rw [e]; decide
theorem plain81 : ∀ f ∈ (Try.prog.fieldsOf 81).toList, f.name ≠ "_" := by
  have e : Try.prog.fieldsOf 81 = match Try.t80.desc with | .struct fs => fs | _ => #[] := by
    unfold Program.fieldsOf; rw [Try.underlying81]; rfl
  rw [e]; decide
theorem plain83 : ∀ f ∈ (Try.prog.fieldsOf 83).toList, f.name ≠ "_" := by
  have e : Try.prog.fieldsOf 83 = match Try.t83.desc with | .struct fs => fs | _ => #[] := by
    unfold Program.fieldsOf; rw [Try.underlying83]; rfl
  rw [e]; decide
theorem plain84 : ∀ f ∈ (Try.prog.fieldsOf 84).toList, f.name ≠ "_" := by
  have e : Try.prog.fieldsOf 84 = match Try.t83.desc with | .struct fs => fs | _ => #[] := by
    unfold Program.fieldsOf; rw [Try.underlying84]; rfl
  rw [e]; decide
noncomputable def tyL5 : List (Nat × Ty) := [(80, ⟨Try.t80, Try.t80.desc, true⟩), (81, ⟨Try.t81, Try.t80.desc, true⟩), (82, ⟨Try.t82, Try.t82.desc, false⟩), (83, ⟨Try.t83, Try.t83.desc, true⟩), (84, ⟨Try.t84, Try.t83.desc, true⟩), (85, ⟨Try.t85, Try.t85.desc, false⟩), (86, ⟨Try.t86, Try.t86.desc, false⟩), (87, ⟨Try.t87, Try.t87.desc, false⟩), (88, ⟨Try.t88, Try.t88.desc, false⟩), (89, ⟨Try.t89, Try.t89.desc, false⟩), (90, ⟨Try.t90, Try.t90.desc, false⟩), (91, ⟨Try.t91, Try.t91.desc, false⟩), (92, ⟨Try.t92, Try.t92.desc, false⟩), (93, ⟨Try.t93, Try.t93.desc, false⟩), (94, ⟨Try.t94, Try.t94.desc, false⟩), (95, ⟨Try.t95, Try.t95.desc, false⟩)]
theorem tyL5_ok : ∀ p ∈ tyL5, TyOk p :=
  cons_mem ⟨Try.typeInfo80, Try.underlying80, fun _ => ⟨Try.stoodInHeld80, Try.eqGuardType80, plain80⟩⟩ (cons_mem ⟨Try.typeInfo81, Try.underlying81, fun _ => ⟨Try.stoodInHeld81, Try.eqGuardType81, plain81⟩⟩ (cons_mem ⟨Try.typeInfo82, Try.underlying82, fun h => nomatch h⟩ (cons_mem ⟨Try.typeInfo83, Try.underlying83, fun _ => ⟨Try.stoodInHeld83, Try.eqGuardType83, plain83⟩⟩ (cons_mem ⟨Try.typeInfo84, Try.underlying84, fun _ => ⟨Try.stoodInHeld84, Try.eqGuardType84, plain84⟩⟩ (cons_mem ⟨Try.typeInfo85, Try.underlying85, fun h => nomatch h⟩ (cons_mem ⟨Try.typeInfo86, Try.underlying86, fun h => nomatch h⟩ (cons_mem ⟨Try.typeInfo87, Try.underlying87, fun h => nomatch h⟩ (cons_mem ⟨Try.typeInfo88, Try.underlying88, fun h => nomatch h⟩ (cons_mem ⟨Try.typeInfo89, Try.underlying89, fun h => nomatch h⟩ (cons_mem ⟨Try.typeInfo90, Try.underlying90, fun h => nomatch h⟩ (cons_mem ⟨Try.typeInfo91, Try.underlying91, fun h => nomatch h⟩ (cons_mem ⟨Try.typeInfo92, Try.underlying92, fun h => nomatch h⟩ (cons_mem ⟨Try.typeInfo93, Try.underlying93, fun h => nomatch h⟩ (cons_mem ⟨Try.typeInfo94, Try.underlying94, fun h => nomatch h⟩ (cons_mem ⟨Try.typeInfo95, Try.underlying95, fun h => nomatch h⟩ nil_mem)))))))))))))))
theorem plain102 : ∀ f ∈ (Try.prog.fieldsOf 102).toList, f.name ≠ "_" := by
  have e : Try.prog.fieldsOf 102 = match Try.t102.desc with | .struct fs => fs | _ => #[] := by
    unfold Program.fieldsOf; rw [Try.underlying102]; rfl
  rw [e]; decide
theorem plain103 : ∀ f ∈ (Try.prog.fieldsOf 103).toList, f.name ≠ "_" := by
  have e : Try.prog.fieldsOf 103 = match Try.t102.desc with | .struct fs => fs | _ => #[] := by
    unfold Program.fieldsOf; rw [Try.underlying103]; rfl
  rw [e]; decide
theorem plain104 : ∀ f ∈ (Try.prog.fieldsOf 104).toList, f.name ≠ "_" := by
  have e : Try.prog.fieldsOf 104 = match Try.t104.desc with | .struct fs => fs | _ => #[] := by
    unfold Program.fieldsOf; rw [Try.underlying104]; rfl
  rw [e]; decide
theorem plain105 : ∀ f ∈ (Try.prog.fieldsOf 105).toList, f.name ≠ "_" := by
  have e : Try.prog.fieldsOf 105 = match Try.t104.desc with | .struct fs => fs | _ => #[] := by
    unfold Program.fieldsOf; rw [Try.underlying105]; rfl
  rw [e]; decide
noncomputable def tyL6 : List (Nat × Ty) := [(96, ⟨Try.t96, Try.t96.desc, false⟩), (97, ⟨Try.t97, Try.t97.desc, false⟩), (98, ⟨Try.t98, Try.t98.desc, false⟩), (99, ⟨Try.t99, Try.t99.desc, false⟩), (100, ⟨Try.t100, Try.t100.desc, false⟩), (101, ⟨Try.t101, Try.t101.desc, false⟩), (102, ⟨Try.t102, Try.t102.desc, true⟩), (103, ⟨Try.t103, Try.t102.desc, true⟩), (104, ⟨Try.t104, Try.t104.desc, true⟩), (105, ⟨Try.t105, Try.t104.desc, true⟩), (106, ⟨Try.t106, Try.t106.desc, false⟩), (107, ⟨Try.t107, Try.t107.desc, false⟩), (108, ⟨Try.t108, Try.t108.desc, false⟩), (109, ⟨Try.t109, Try.t109.desc, false⟩), (110, ⟨Try.t110, Try.t110.desc, false⟩), (111, ⟨Try.t111, Try.t111.desc, false⟩)]
theorem tyL6_ok : ∀ p ∈ tyL6, TyOk p :=
  cons_mem ⟨Try.typeInfo96, Try.underlying96, fun h => nomatch h⟩ (cons_mem ⟨Try.typeInfo97, Try.underlying97, fun h => nomatch h⟩ (cons_mem ⟨Try.typeInfo98, Try.underlying98, fun h => nomatch h⟩ (cons_mem ⟨Try.typeInfo99, Try.underlying99, fun h => nomatch h⟩ (cons_mem ⟨Try.typeInfo100, Try.underlying100, fun h => nomatch h⟩ (cons_mem ⟨Try.typeInfo101, Try.underlying101, fun h => nomatch h⟩ (cons_mem ⟨Try.typeInfo102, Try.underlying102, fun _ => ⟨Try.stoodInHeld102, Try.eqGuardType102, plain102⟩⟩ (cons_mem ⟨Try.typeInfo103, Try.underlying103, fun _ => ⟨Try.stoodInHeld103, Try.eqGuardType103, plain103⟩⟩ (cons_mem ⟨Try.typeInfo104, Try.underlying104, fun _ => ⟨Try.stoodInHeld104, Try.eqGuardType104, plain104⟩⟩ (cons_mem ⟨Try.typeInfo105, Try.underlying105, fun _ => ⟨Try.stoodInHeld105, Try.eqGuardType105, plain105⟩⟩ (cons_mem ⟨Try.typeInfo106, Try.underlying106, fun h => nomatch h⟩ (cons_mem ⟨Try.typeInfo107, Try.underlying107, fun h => nomatch h⟩ (cons_mem ⟨Try.typeInfo108, Try.underlying108, fun h => nomatch h⟩ (cons_mem ⟨Try.typeInfo109, Try.underlying109, fun h => nomatch h⟩ (cons_mem ⟨Try.typeInfo110, Try.underlying110, fun h => nomatch h⟩ (cons_mem ⟨Try.typeInfo111, Try.underlying111, fun h => nomatch h⟩ nil_mem)))))))))))))))
theorem plain112 : ∀ f ∈ (Try.prog.fieldsOf 112).toList, f.name ≠ "_" := by
  have e : Try.prog.fieldsOf 112 = match Try.t112.desc with | .struct fs => fs | _ => #[] := by
    unfold Program.fieldsOf; rw [Try.underlying112]; rfl
  rw [e]; decide
theorem plain113 : ∀ f ∈ (Try.prog.fieldsOf 113).toList, f.name ≠ "_" := by
  have e : Try.prog.fieldsOf 113 = match Try.t112.desc with | .struct fs => fs | _ => #[] := by
    unfold Program.fieldsOf; rw [Try.underlying113]; rfl
  rw [e]; decide
theorem plain118 : ∀ f ∈ (Try.prog.fieldsOf 118).toList, f.name ≠ "_" := by
  have e : Try.prog.fieldsOf 118 = match Try.t118.desc with | .struct fs => fs | _ => #[] := by
    unfold Program.fieldsOf; rw [Try.underlying118]; rfl
  rw [e]; decide
theorem plain119 : ∀ f ∈ (Try.prog.fieldsOf 119).toList, f.name ≠ "_" := by
  have e : Try.prog.fieldsOf 119 = match Try.t118.desc with | .struct fs => fs | _ => #[] := by
    unfold Program.fieldsOf; rw [Try.underlying119]; rfl
  rw [e]; decide
theorem plain126 : ∀ f ∈ (Try.prog.fieldsOf 126).toList, f.name ≠ "_" := by
  have e : Try.prog.fieldsOf 126 = match Try.t126.desc with | .struct fs => fs | _ => #[] := by
    unfold Program.fieldsOf; rw [Try.underlying126]; rfl
  rw [e]; decide
theorem plain127 : ∀ f ∈ (Try.prog.fieldsOf 127).toList, f.name ≠ "_" := by
  have e : Try.prog.fieldsOf 127 = match Try.t126.desc with | .struct fs => fs | _ => #[] := by
    unfold Program.fieldsOf; rw [Try.underlying127]; rfl
  rw [e]; decide
noncomputable def tyL7 : List (Nat × Ty) := [(112, ⟨Try.t112, Try.t112.desc, true⟩), (113, ⟨Try.t113, Try.t112.desc, true⟩), (114, ⟨Try.t114, Try.t114.desc, false⟩), (115, ⟨Try.t115, Try.t115.desc, false⟩), (116, ⟨Try.t116, Try.t116.desc, false⟩), (117, ⟨Try.t117, Try.t117.desc, false⟩), (118, ⟨Try.t118, Try.t118.desc, true⟩), (119, ⟨Try.t119, Try.t118.desc, true⟩), (120, ⟨Try.t120, Try.t120.desc, false⟩), (121, ⟨Try.t121, Try.t121.desc, false⟩), (122, ⟨Try.t122, Try.t122.desc, false⟩), (123, ⟨Try.t123, Try.t123.desc, false⟩), (124, ⟨Try.t124, Try.t124.desc, false⟩), (125, ⟨Try.t125, Try.t125.desc, false⟩), (126, ⟨Try.t126, Try.t126.desc, true⟩), (127, ⟨Try.t127, Try.t126.desc, true⟩)]
theorem tyL7_ok : ∀ p ∈ tyL7, TyOk p :=
  cons_mem ⟨Try.typeInfo112, Try.underlying112, fun _ => ⟨Try.stoodInHeld112, Try.eqGuardType112, plain112⟩⟩ (cons_mem ⟨Try.typeInfo113, Try.underlying113, fun _ => ⟨Try.stoodInHeld113, Try.eqGuardType113, plain113⟩⟩ (cons_mem ⟨Try.typeInfo114, Try.underlying114, fun h => nomatch h⟩ (cons_mem ⟨Try.typeInfo115, Try.underlying115, fun h => nomatch h⟩ (cons_mem ⟨Try.typeInfo116, Try.underlying116, fun h => nomatch h⟩ (cons_mem ⟨Try.typeInfo117, Try.underlying117, fun h => nomatch h⟩ (cons_mem ⟨Try.typeInfo118, Try.underlying118, fun _ => ⟨Try.stoodInHeld118, Try.eqGuardType118, plain118⟩⟩ (cons_mem ⟨Try.typeInfo119, Try.underlying119, fun _ => ⟨Try.stoodInHeld119, Try.eqGuardType119, plain119⟩⟩ (cons_mem ⟨Try.typeInfo120, Try.underlying120, fun h => nomatch h⟩ (cons_mem ⟨Try.typeInfo121, Try.underlying121, fun h => nomatch h⟩ (cons_mem ⟨Try.typeInfo122, Try.underlying122, fun h => nomatch h⟩ (cons_mem ⟨Try.typeInfo123, Try.underlying123, fun h => nomatch h⟩ (cons_mem ⟨Try.typeInfo124, Try.underlying124, fun h => nomatch h⟩ (cons_mem ⟨Try.typeInfo125, Try.underlying125, fun h => nomatch h⟩ (cons_mem ⟨Try.typeInfo126, Try.underlying126, fun _ => ⟨Try.stoodInHeld126, Try.eqGuardType126, plain126⟩⟩ (cons_mem ⟨Try.typeInfo127, Try.underlying127, fun _ => ⟨Try.stoodInHeld127, Try.eqGuardType127, plain127⟩⟩ nil_mem)))))))))))))))
noncomputable def tyL8 : List (Nat × Ty) := [(128, ⟨Try.t128, Try.t128.desc, false⟩), (129, ⟨Try.t129, Try.t129.desc, false⟩), (130, ⟨Try.t130, Try.t130.desc, false⟩), (131, ⟨Try.t131, Try.t131.desc, false⟩), (132, ⟨Try.t132, Try.t132.desc, false⟩), (133, ⟨Try.t133, Try.t133.desc, false⟩), (134, ⟨Try.t134, Try.t133.desc, false⟩), (135, ⟨Try.t135, Try.t135.desc, false⟩), (136, ⟨Try.t136, Try.t136.desc, false⟩), (137, ⟨Try.t137, Try.t136.desc, false⟩), (138, ⟨Try.t138, Try.t138.desc, false⟩), (139, ⟨Try.t139, Try.t139.desc, false⟩), (140, ⟨Try.t140, Try.t5.desc, false⟩), (141, ⟨Try.t141, Try.t5.desc, false⟩), (142, ⟨Try.t142, Try.t142.desc, false⟩), (143, ⟨Try.t143, Try.t143.desc, false⟩)]
theorem tyL8_ok : ∀ p ∈ tyL8, TyOk p :=
  cons_mem ⟨Try.typeInfo128, Try.underlying128, fun h => nomatch h⟩ (cons_mem ⟨Try.typeInfo129, Try.underlying129, fun h => nomatch h⟩ (cons_mem ⟨Try.typeInfo130, Try.underlying130, fun h => nomatch h⟩ (cons_mem ⟨Try.typeInfo131, Try.underlying131, fun h => nomatch h⟩ (cons_mem ⟨Try.typeInfo132, Try.underlying132, fun h => nomatch h⟩ (cons_mem ⟨Try.typeInfo133, Try.underlying133, fun h => nomatch h⟩ (cons_mem ⟨Try.typeInfo134, Try.underlying134, fun h => nomatch h⟩ (cons_mem ⟨Try.typeInfo135, Try.underlying135, fun h => nomatch h⟩ (cons_mem ⟨Try.typeInfo136, Try.underlying136, fun h => nomatch h⟩ (cons_mem ⟨Try.typeInfo137, Try.underlying137, fun h => nomatch h⟩ (cons_mem ⟨Try.typeInfo138, Try.underlying138, fun h => nomatch h⟩ (cons_mem ⟨Try.typeInfo139, Try.underlying139, fun h => nomatch h⟩ (cons_mem ⟨Try.typeInfo140, Try.underlying140, fun h => nomatch h⟩ (cons_mem ⟨Try.typeInfo141, Try.underlying141, fun h => nomatch h⟩ (cons_mem ⟨Try.typeInfo142, Try.underlying142, fun h => nomatch h⟩ (cons_mem ⟨Try.typeInfo143, Try.underlying143, fun h => nomatch h⟩ nil_mem)))))))))))))))
noncomputable def tyL9 : List (Nat × Ty) := [(144, ⟨Try.t144, Try.t21.desc, false⟩), (145, ⟨Try.t145, Try.t21.desc, false⟩), (146, ⟨Try.t146, Try.t146.desc, false⟩), (147, ⟨Try.t147, Try.t146.desc, false⟩), (148, ⟨Try.t148, Try.t148.desc, false⟩)]
theorem tyL9_ok : ∀ p ∈ tyL9, TyOk p :=
  cons_mem ⟨Try.typeInfo144, Try.underlying144, fun h => nomatch h⟩ (cons_mem ⟨Try.typeInfo145, Try.underlying145, fun h => nomatch h⟩ (cons_mem ⟨Try.typeInfo146, Try.underlying146, fun h => nomatch h⟩ (cons_mem ⟨Try.typeInfo147, Try.underlying147, fun h => nomatch h⟩ (cons_mem ⟨Try.typeInfo148, Try.underlying148, fun h => nomatch h⟩ nil_mem))))
noncomputable def tyL : List (Nat × Ty) := tyL0 ++ tyL1 ++ tyL2 ++ tyL3 ++ tyL4 ++ tyL5 ++ tyL6 ++ tyL7 ++ tyL8 ++ tyL9
theorem tyL_ok : ∀ p ∈ tyL, TyOk p := app_mem (app_mem (app_mem (app_mem (app_mem (app_mem (app_mem (app_mem (app_mem (tyL0_ok) tyL1_ok) tyL2_ok) tyL3_ok) tyL4_ok) tyL5_ok) tyL6_ok) tyL7_ok) tyL8_ok) tyL9_ok
noncomputable def fnL0 : List (Nat × Func) := [(2, Try.f2), (3, Try.f3), (4, Try.f4), (5, Try.f5), (6, Try.f6), (7, Try.f7), (8, Try.f8), (9, Try.f9), (10, Try.f10), (11, Try.f11), (12, Try.f12), (13, Try.f13), (14, Try.f14), (15, Try.f15), (16, Try.f16), (17, Try.f17)]
theorem fnL0_ok : ∀ p ∈ fnL0, FnOk p :=
  cons_mem ⟨Try.func2, Try.call2⟩ (cons_mem ⟨Try.func3, Try.call3⟩ (cons_mem ⟨Try.func4, Try.call4⟩ (cons_mem ⟨Try.func5, Try.call5⟩ (cons_mem ⟨Try.func6, Try.call6⟩ (cons_mem ⟨Try.func7, Try.call7⟩ (cons_mem ⟨Try.func8, Try.call8⟩ (cons_mem ⟨Try.func9, Try.call9⟩ (cons_mem ⟨Try.func10, Try.call10⟩ (cons_mem ⟨Try.func11, Try.call11⟩ (cons_mem ⟨Try.func12, Try.call12⟩ (cons_mem ⟨Try.func13, Try.call13⟩ (cons_mem ⟨Try.func14, Try.call14⟩ (cons_mem ⟨Try.func15, Try.call15⟩ (cons_mem ⟨Try.func16, Try.call16⟩ (cons_mem ⟨Try.func17, Try.call17⟩ (nil_mem))))))))))))))))
noncomputable def fnL1 : List (Nat × Func) := [(18, Try.f18), (19, Try.f19), (20, Try.f20), (21, Try.f21), (22, Try.f22), (23, Try.f23), (24, Try.f24), (25, Try.f25), (26, Try.f26), (27, Try.f27), (28, Try.f28), (29, Try.f29), (30, Try.f30), (31, Try.f31), (32, Try.f32), (33, Try.f33)]
theorem fnL1_ok : ∀ p ∈ fnL1, FnOk p :=
  cons_mem ⟨Try.func18, Try.call18⟩ (cons_mem ⟨Try.func19, Try.call19⟩ (cons_mem ⟨Try.func20, Try.call20⟩ (cons_mem ⟨Try.func21, Try.call21⟩ (cons_mem ⟨Try.func22, Try.call22⟩ (cons_mem ⟨Try.func23, Try.call23⟩ (cons_mem ⟨Try.func24, Try.call24⟩ (cons_mem ⟨Try.func25, Try.call25⟩ (cons_mem ⟨Try.func26, Try.call26⟩ (cons_mem ⟨Try.func27, Try.call27⟩ (cons_mem ⟨Try.func28, Try.call28⟩ (cons_mem ⟨Try.func29, Try.call29⟩ (cons_mem ⟨Try.func30, Try.call30⟩ (cons_mem ⟨Try.func31, Try.call31⟩ (cons_mem ⟨Try.func32, Try.call32⟩ (cons_mem ⟨Try.func33, Try.call33⟩ (nil_mem))))))))))))))))
noncomputable def fnL2 : List (Nat × Func) := [(34, Try.f34), (35, Try.f35), (36, Try.f36), (37, Try.f37), (38, Try.f38), (39, Try.f39), (40, Try.f40), (41, Try.f41), (42, Try.f42), (43, Try.f43), (44, Try.f44), (45, Try.f45), (46, Try.f46), (47, Try.f47), (48, Try.f48), (49, Try.f49)]
theorem fnL2_ok : ∀ p ∈ fnL2, FnOk p :=
  cons_mem ⟨Try.func34, Try.call34⟩ (cons_mem ⟨Try.func35, Try.call35⟩ (cons_mem ⟨Try.func36, Try.call36⟩ (cons_mem ⟨Try.func37, Try.call37⟩ (cons_mem ⟨Try.func38, Try.call38⟩ (cons_mem ⟨Try.func39, Try.call39⟩ (cons_mem ⟨Try.func40, Try.call40⟩ (cons_mem ⟨Try.func41, Try.call41⟩ (cons_mem ⟨Try.func42, Try.call42⟩ (cons_mem ⟨Try.func43, Try.call43⟩ (cons_mem ⟨Try.func44, Try.call44⟩ (cons_mem ⟨Try.func45, Try.call45⟩ (cons_mem ⟨Try.func46, Try.call46⟩ (cons_mem ⟨Try.func47, Try.call47⟩ (cons_mem ⟨Try.func48, Try.call48⟩ (cons_mem ⟨Try.func49, Try.call49⟩ (nil_mem))))))))))))))))
noncomputable def fnL3 : List (Nat × Func) := [(50, Try.f50), (51, Try.f51), (52, Try.f52), (53, Try.f53), (54, Try.f54), (55, Try.f55), (56, Try.f56), (57, Try.f57), (58, Try.f58), (59, Try.f59), (60, Try.f60), (61, Try.f61), (62, Try.f62), (63, Try.f63)]
theorem fnL3_ok : ∀ p ∈ fnL3, FnOk p :=
  cons_mem ⟨Try.func50, Try.call50⟩ (cons_mem ⟨Try.func51, Try.call51⟩ (cons_mem ⟨Try.func52, Try.call52⟩ (cons_mem ⟨Try.func53, Try.call53⟩ (cons_mem ⟨Try.func54, Try.call54⟩ (cons_mem ⟨Try.func55, Try.call55⟩ (cons_mem ⟨Try.func56, Try.call56⟩ (cons_mem ⟨Try.func57, Try.call57⟩ (cons_mem ⟨Try.func58, Try.call58⟩ (cons_mem ⟨Try.func59, Try.call59⟩ (cons_mem ⟨Try.func60, Try.call60⟩ (cons_mem ⟨Try.func61, Try.call61⟩ (cons_mem ⟨Try.func62, Try.call62⟩ (cons_mem ⟨Try.func63, Try.call63⟩ (nil_mem))))))))))))))
noncomputable def fnL : List (Nat × Func) := fnL0 ++ fnL1 ++ fnL2 ++ fnL3
theorem fnL_ok : ∀ p ∈ fnL, FnOk p := app_mem (app_mem (app_mem (fnL0_ok) fnL1_ok) fnL2_ok) fnL3_ok
noncomputable def tyT : Tr Ty := Tr.ofL tyL
noncomputable def fnT : Tr Func := Tr.ofL fnL
noncomputable def tabW (orc : List Orc) (mmo : List Mmo) (ctr : List Ctr) : Tab := ⟨tyT, fnT, orc, mmo, ctr⟩
theorem tab_ok {σ : Nat → Int} {orc : List Orc} {mmo : List Mmo} {ctr : List Ctr}
    (h1 : ∀ e ∈ orc, flatV e.v = true ∧ ∃ a b, (∀ E, den σ E e.x = .int .i64 a) ∧ (∀ E, den σ E e.y = .int .i64 b) ∧ intB e.op .i64 a b = some (den σ E00 e.v))
    (h2 : ∀ e ∈ mmo, flatV e.v = true ∧ ∃ a b, (∀ E, den σ E e.x = .int .i64 a) ∧ (∀ E, den σ E e.y = .int .i64 b) ∧ den σ E00 e.v = .int .i64 (if e.mx then (if b > a then b else a) else (if b < a then b else a)))
    (h3 : ∀ e ∈ ctr, flatV e.v = true ∧ e.args.all flatV = true ∧ ∀ w, Calls Try.prog e.f (e.args.map (den σ E00)).toArray w fun r w' => r = .returned (den σ E00 e.v) ∧ RowKit.Below w.heap.size w w') :
    (tabW orc mmo ctr).Ok σ Try.prog where
  info t y h := (tyL_ok _ (Tr.get_ofL _ _ _ h)).1
  desc t y h := (tyL_ok _ (Tr.get_ofL _ _ _ h)).2.1
  plain t y h := (tyL_ok _ (Tr.get_ofL _ _ _ h)).2.2
  fn f g h := (fnL_ok _ (Tr.get_ofL _ _ _ h)).1
  call f g h := (fnL_ok _ (Tr.get_ofL _ _ _ h)).2
  mixed := by kernel_rfl
  orc := h1
  mmo := h2
  ctr := h3
theorem tab_plain {σ : Nat → Int} : (tabW [] [] []).Ok σ Try.prog := tab_ok nil_mem nil_mem nil_mem
end Go.Proofs.Ytldegofgggjpeaa
