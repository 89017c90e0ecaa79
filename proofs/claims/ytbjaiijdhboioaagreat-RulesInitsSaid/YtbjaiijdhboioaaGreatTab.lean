/-
  The tables of this seat's program, for the runner of closed code.
-/
import Derived.Test.YtbjaiijdhboioaaGreatSx19
import Derived.KernelRfl
import Derived.Test.YtbjaiijdhboioaaGreatProg
namespace Go.Proofs.YtbjaiijdhboioaaGreat
open Go Go.Proofs.YtbjaiijdhboioaaGreat.Sx
def TyOk (p : Nat × Ty) : Prop := (∀ w, (typeInfo p.1).run Tryz.prog w = .ok p.2.info w) ∧ Tryz.prog.underlying p.1 = some p.2.desc ∧ (p.2.plain = true → Tryz.prog.stoodInHeld p.1 = false ∧ Tryz.prog.eqGuardType Tryz.prog.depth p.1 = false ∧ ∀ f ∈ (Tryz.prog.fieldsOf p.1).toList, f.name ≠ "_")
def FnOk (p : Nat × Func) : Prop := Tryz.prog.funcs[p.1]? = some p.2 ∧ ∀ args w, (callFunc p.1 args).run Tryz.prog w = .ok (.enter p.1 args) w
theorem cons_mem {α : Type} {p : α → Prop} {a : α} {l : List α} (h : p a) (k : ∀ x ∈ l, p x) : ∀ x ∈ a :: l, p x := fun x hx => by
  rcases List.mem_cons.1 hx with rfl | hx
  · exact h
  · exact k x hx
theorem nil_mem {α : Type} {p : α → Prop} : ∀ x ∈ ([] : List α), p x := fun x hx => nomatch hx
theorem app_mem {α : Type} {p : α → Prop} {l m : List α} (h : ∀ x ∈ l, p x) (k : ∀ x ∈ m, p x) : ∀ x ∈ l ++ m, p x := fun x hx => (List.mem_append.1 hx).elim (h x) (k x)
theorem plain7 : ∀ f ∈ (Tryz.prog.fieldsOf 7).toList, f.name ≠ "_" := by
  have e : Tryz.prog.fieldsOf 7 = match Tryz.t7.desc with | .struct fs => fs | _ => #[] := by
    unfold Program.fieldsOf; rw [Tryz.underlying7]; rfl
  rw [e]; decide
theorem plain8 : ∀ f ∈ (Tryz.prog.fieldsOf 8).toList, f.name ≠ "_" := by
  have e : Tryz.prog.fieldsOf 8 = match Tryz.t7.desc with | .struct fs => fs | _ => #[] := by
    unfold Program.fieldsOf; rw [Tryz.underlying8]; rfl
  rw [e]; decide
noncomputable def tyL0 : List (Nat × Ty) := [(0, ⟨Tryz.t0, Tryz.t0.desc, false⟩), (1, ⟨Tryz.t1, Tryz.t1.desc, false⟩), (2, ⟨Tryz.t2, Tryz.t2.desc, false⟩), (3, ⟨Tryz.t3, Tryz.t3.desc, false⟩), (4, ⟨Tryz.t4, Tryz.t4.desc, false⟩), (5, ⟨Tryz.t5, Tryz.t5.desc, false⟩), (6, ⟨Tryz.t6, Tryz.t5.desc, false⟩), (7, ⟨Tryz.t7, Tryz.t7.desc, true⟩), (8, ⟨Tryz.t8, Tryz.t7.desc, true⟩), (9, ⟨Tryz.t9, Tryz.t9.desc, false⟩), (10, ⟨Tryz.t10, Tryz.t9.desc, false⟩), (11, ⟨Tryz.t11, Tryz.t9.desc, false⟩), (12, ⟨Tryz.t12, Tryz.t12.desc, false⟩), (13, ⟨Tryz.t13, Tryz.t13.desc, false⟩), (14, ⟨Tryz.t14, Tryz.t13.desc, false⟩), (15, ⟨Tryz.t15, Tryz.t15.desc, false⟩)]
theorem tyL0_ok : ∀ p ∈ tyL0, TyOk p :=
  cons_mem ⟨Tryz.typeInfo0, Tryz.underlying0, fun h => nomatch h⟩ (cons_mem ⟨Tryz.typeInfo1, Tryz.underlying1, fun h => nomatch h⟩ (cons_mem ⟨Tryz.typeInfo2, Tryz.underlying2, fun h => nomatch h⟩ (cons_mem ⟨Tryz.typeInfo3, Tryz.underlying3, fun h => nomatch h⟩ (cons_mem ⟨Tryz.typeInfo4, Tryz.underlying4, fun h => nomatch h⟩ (cons_mem ⟨Tryz.typeInfo5, Tryz.underlying5, fun h => nomatch h⟩ (cons_mem ⟨Tryz.typeInfo6, Tryz.underlying6, fun h => nomatch h⟩ (cons_mem ⟨Tryz.typeInfo7, Tryz.underlying7, fun _ => ⟨Tryz.stoodInHeld7, Tryz.eqGuardType7, plain7⟩⟩ (cons_mem ⟨Tryz.typeInfo8, Tryz.underlying8, fun _ => ⟨Tryz.stoodInHeld8, Tryz.eqGuardType8, plain8⟩⟩ (cons_mem ⟨Tryz.typeInfo9, Tryz.underlying9, fun h => nomatch h⟩ (cons_mem ⟨Tryz.typeInfo10, Tryz.underlying10, fun h => nomatch h⟩ (cons_mem ⟨Tryz.typeInfo11, Tryz.underlying11, fun h => nomatch h⟩ (cons_mem ⟨Tryz.typeInfo12, Tryz.underlying12, fun h => nomatch h⟩ (cons_mem ⟨Tryz.typeInfo13, Tryz.underlying13, fun h => nomatch h⟩ (cons_mem ⟨Tryz.typeInfo14, Tryz.underlying14, fun h => nomatch h⟩ (cons_mem ⟨Tryz.typeInfo15, Tryz.underlying15, fun h => nomatch h⟩ nil_mem)))))))))))))))
theorem plain23 : ∀ f ∈ (Tryz.prog.fieldsOf 23).toList, f.name ≠ "_" := by
  have e : Tryz.prog.fieldsOf 23 = match Tryz.t23.desc with | .struct fs => fs | _ => #[] := by
    unfold Program.fieldsOf; rw [Tryz.underlying23]; rfl
  rw [e]; decide
theorem plain24 : ∀ f ∈ (Tryz.prog.fieldsOf 24).toList, f.name ≠ "_" := by
  have e : Tryz.prog.fieldsOf 24 = match Tryz.t23.desc with | .struct fs => fs | _ => #[] := by
    unfold Program.fieldsOf; rw [Tryz.underlying24]; rfl
  rw [e]; decide
theorem plain26 : ∀ f ∈ (Tryz.prog.fieldsOf 26).toList, f.name ≠ "_" := by
  have e : Tryz.prog.fieldsOf 26 = match Tryz.t26.desc with | .struct fs => fs | _ => #[] := by
    unfold Program.fieldsOf; rw [Tryz.underlying26]; rfl
  rw [e]; decide
theorem plain27 : ∀ f ∈ (Tryz.prog.fieldsOf 27).toList, f.name ≠ "_" := by
  have e : Tryz.prog.fieldsOf 27 = match Tryz.t26.desc with | .struct fs => fs | _ => #[] := by
    unfold Program.fieldsOf; rw [Tryz.underlying27]; rfl
  rw [e]; decide
noncomputable def tyL1 : List (Nat × Ty) := [(16, ⟨Tryz.t16, Tryz.t16.desc, false⟩), (17, ⟨Tryz.t17, Tryz.t17.desc, false⟩), (18, ⟨Tryz.t18, Tryz.t18.desc, false⟩), (19, ⟨Tryz.t19, Tryz.t18.desc, false⟩), (20, ⟨Tryz.t20, Tryz.t20.desc, false⟩), (21, ⟨Tryz.t21, Tryz.t21.desc, false⟩), (22, ⟨Tryz.t22, Tryz.t22.desc, false⟩), (23, ⟨Tryz.t23, Tryz.t23.desc, true⟩), (24, ⟨Tryz.t24, Tryz.t23.desc, true⟩), (25, ⟨Tryz.t25, Tryz.t25.desc, false⟩), (26, ⟨Tryz.t26, Tryz.t26.desc, true⟩), (27, ⟨Tryz.t27, Tryz.t26.desc, true⟩), (28, ⟨Tryz.t28, Tryz.t28.desc, false⟩), (29, ⟨Tryz.t29, Tryz.t29.desc, false⟩), (30, ⟨Tryz.t30, Tryz.t30.desc, false⟩), (31, ⟨Tryz.t31, Tryz.t31.desc, false⟩)]
theorem tyL1_ok : ∀ p ∈ tyL1, TyOk p :=
  cons_mem ⟨Tryz.typeInfo16, Tryz.underlying16, fun h => nomatch h⟩ (cons_mem ⟨Tryz.typeInfo17, Tryz.underlying17, fun h => nomatch h⟩ (cons_mem ⟨Tryz.typeInfo18, Tryz.underlying18, fun h => nomatch h⟩ (cons_mem ⟨Tryz.typeInfo19, Tryz.underlying19, fun h => nomatch h⟩ (cons_mem ⟨Tryz.typeInfo20, Tryz.underlying20, fun h => nomatch h⟩ (cons_mem ⟨Tryz.typeInfo21, Tryz.underlying21, fun h => nomatch h⟩ (cons_mem ⟨Tryz.typeInfo22, Tryz.underlying22, fun h => nomatch h⟩ (cons_mem ⟨Tryz.typeInfo23, Tryz.underlying23, fun _ => ⟨Tryz.stoodInHeld23, Tryz.eqGuardType23, plain23⟩⟩ (cons_mem ⟨Tryz.typeInfo24, Tryz.underlying24, fun _ => ⟨Tryz.stoodInHeld24, Tryz.eqGuardType24, plain24⟩⟩ (cons_mem ⟨Tryz.typeInfo25, Tryz.underlying25, fun h => nomatch h⟩ (cons_mem ⟨Tryz.typeInfo26, Tryz.underlying26, fun _ => ⟨Tryz.stoodInHeld26, Tryz.eqGuardType26, plain26⟩⟩ (cons_mem ⟨Tryz.typeInfo27, Tryz.underlying27, fun _ => ⟨Tryz.stoodInHeld27, Tryz.eqGuardType27, plain27⟩⟩ (cons_mem ⟨Tryz.typeInfo28, Tryz.underlying28, fun h => nomatch h⟩ (cons_mem ⟨Tryz.typeInfo29, Tryz.underlying29, fun h => nomatch h⟩ (cons_mem ⟨Tryz.typeInfo30, Tryz.underlying30, fun h => nomatch h⟩ (cons_mem ⟨Tryz.typeInfo31, Tryz.underlying31, fun h => nomatch h⟩ nil_mem)))))))))))))))
theorem plain32 : ∀ f ∈ (Tryz.prog.fieldsOf 32).toList, f.name ≠ "_" := by
  have e : Tryz.prog.fieldsOf 32 = match Tryz.t32.desc with | .struct fs => fs | _ => #[] := by
    unfold Program.fieldsOf; rw [Tryz.underlying32]; rfl
  rw [e]; decide
theorem plain33 : ∀ f ∈ (Tryz.prog.fieldsOf 33).toList, f.name ≠ "_" := by
  have e : Tryz.prog.fieldsOf 33 = match Tryz.t32.desc with | .struct fs => fs | _ => #[] := by
    unfold Program.fieldsOf; rw [Tryz.underlying33]; rfl
  rw [e]; decide
theorem plain35 : ∀ f ∈ (Tryz.prog.fieldsOf 35).toList, f.name ≠ "_" := by
  have e : Tryz.prog.fieldsOf 35 = match Tryz.t35.desc with | .struct fs => fs | _ => #[] := by
    unfold Program.fieldsOf; rw [Tryz.underlying35]; rfl
  rw [e]; decide
theorem plain36 : ∀ f ∈ (Tryz.prog.fieldsOf 36).toList, f.name ≠ "_" := by
  have e : Tryz.prog.fieldsOf 36 = match Tryz.t35.desc with | .struct fs => fs | _ => #[] := by
    unfold Program.fieldsOf; rw [Tryz.underlying36]; rfl
  rw [e]; decide
theorem plain47 : ∀ f ∈ (Tryz.prog.fieldsOf 47).toList, f.name ≠ "_" := by
  have e : Tryz.prog.fieldsOf 47 = match Tryz.t47.desc with | .struct fs => fs | _ => #[] := by
    unfold Program.fieldsOf; rw [Tryz.underlying47]; rfl
  rw [e]; decide
noncomputable def tyL2 : List (Nat × Ty) := [(32, ⟨Tryz.t32, Tryz.t32.desc, true⟩), (33, ⟨Tryz.t33, Tryz.t32.desc, true⟩), (34, ⟨Tryz.t34, Tryz.t34.desc, false⟩), (35, ⟨Tryz.t35, Tryz.t35.desc, true⟩), (36, ⟨Tryz.t36, Tryz.t35.desc, true⟩), (37, ⟨Tryz.t37, Tryz.t37.desc, false⟩), (38, ⟨Tryz.t38, Tryz.t38.desc, false⟩), (39, ⟨Tryz.t39, Tryz.t39.desc, false⟩), (40, ⟨Tryz.t40, Tryz.t40.desc, false⟩), (41, ⟨Tryz.t41, Tryz.t41.desc, false⟩), (42, ⟨Tryz.t42, Tryz.t42.desc, false⟩), (43, ⟨Tryz.t43, Tryz.t43.desc, false⟩), (44, ⟨Tryz.t44, Tryz.t44.desc, false⟩), (45, ⟨Tryz.t45, Tryz.t45.desc, false⟩), (46, ⟨Tryz.t46, Tryz.t46.desc, false⟩), (47, ⟨Tryz.t47, Tryz.t47.desc, true⟩)]
theorem tyL2_ok : ∀ p ∈ tyL2, TyOk p :=
  cons_mem ⟨Tryz.typeInfo32, Tryz.underlying32, fun _ => ⟨Tryz.stoodInHeld32, Tryz.eqGuardType32, plain32⟩⟩ (cons_mem ⟨Tryz.typeInfo33, Tryz.underlying33, fun _ => ⟨Tryz.stoodInHeld33, Tryz.eqGuardType33, plain33⟩⟩ (cons_mem ⟨Tryz.typeInfo34, Tryz.underlying34, fun h => nomatch h⟩ (cons_mem ⟨Tryz.typeInfo35, Tryz.underlying35, fun _ => ⟨Tryz.stoodInHeld35, Tryz.eqGuardType35, plain35⟩⟩ (cons_mem ⟨Tryz.typeInfo36, Tryz.underlying36, fun _ => ⟨Tryz.stoodInHeld36, Tryz.eqGuardType36, plain36⟩⟩ (cons_mem ⟨Tryz.typeInfo37, Tryz.underlying37, fun h => nomatch h⟩ (cons_mem ⟨Tryz.typeInfo38, Tryz.underlying38, fun h => nomatch h⟩ (cons_mem ⟨Tryz.typeInfo39, Tryz.underlying39, fun h => nomatch h⟩ (cons_mem ⟨Tryz.typeInfo40, Tryz.underlying40, fun h => nomatch h⟩ (cons_mem ⟨Tryz.typeInfo41, Tryz.underlying41, fun h => nomatch h⟩ (cons_mem ⟨Tryz.typeInfo42, Tryz.underlying42, fun h => nomatch h⟩ (cons_mem ⟨Tryz.typeInfo43, Tryz.underlying43, fun h => nomatch h⟩ (cons_mem ⟨Tryz.typeInfo44, Tryz.underlying44, fun h => nomatch h⟩ (cons_mem ⟨Tryz.typeInfo45, Tryz.underlying45, fun h => nomatch h⟩ (cons_mem ⟨Tryz.typeInfo46, Tryz.underlying46, fun h => nomatch h⟩ (cons_mem ⟨Tryz.typeInfo47, Tryz.underlying47, fun _ => ⟨Tryz.stoodInHeld47, Tryz.eqGuardType47, plain47⟩⟩ nil_mem)))))))))))))))
theorem plain48 : ∀ f ∈ (Tryz.prog.fieldsOf 48).toList, f.name ≠ "_" := by
  have e : Tryz.prog.fieldsOf 48 = match Tryz.t47.desc with | .struct fs => fs | _ => #[] := by
    unfold Program.fieldsOf; rw [Tryz.underlying48]; rfl
  rw [e]; decide
theorem plain54 : ∀ f ∈ (Tryz.prog.fieldsOf 54).toList, f.name ≠ "_" := by
  have e : Tryz.prog.fieldsOf 54 = match Tryz.t54.desc with | .struct fs => fs | _ => #[] := by
    unfold Program.fieldsOf; rw [Tryz.underlying54]; rfl
  rw [e]; decide
theorem plain55 : ∀ f ∈ (Tryz.prog.fieldsOf 55).toList, f.name ≠ "_" := by
  have e : Tryz.prog.fieldsOf 55 = match Tryz.t54.desc with | .struct fs => fs | _ => #[] := by
    unfold Program.fieldsOf; rw [Tryz.underlying55]; rfl
  rw [e]; decide
theorem plain58 : ∀ f ∈ (Tryz.prog.fieldsOf 58).toList, f.name ≠ "_" := by
  have e : Tryz.prog.fieldsOf 58 = match Tryz.t58.desc with | .struct fs => fs | _ => #[] := by
    unfold Program.fieldsOf; rw [Tryz.underlying58]; rfl
  rw [e]; decide
theorem plain59 : ∀ f ∈ (Tryz.prog.fieldsOf 59).toList, f.name ≠ "_" := by
  have e : Tryz.prog.fieldsOf 59 = match Tryz.t58.desc with | .struct fs => fs | _ => #[] := by
    unfold Program.fieldsOf; rw [Tryz.underlying59]; rfl
  rw [e]; decide
theorem plain61 : ∀ f ∈ (Tryz.prog.fieldsOf 61).toList, f.name ≠ "_" := by
  have e : Tryz.prog.fieldsOf 61 = match Tryz.t61.desc with | .struct fs => fs | _ => #[] := by
    unfold Program.fieldsOf; rw [Tryz.underlying61]; rfl
  rw [e]; decide
theorem plain62 : ∀ f ∈ (Tryz.prog.fieldsOf 62).toList, f.name ≠ "_" := by
  have e : Tryz.prog.fieldsOf 62 = match Tryz.t61.desc with | .struct fs => fs | _ => #[] := by
    unfold Program.fieldsOf; rw [Tryz.underlying62]; rfl
  rw [e]; decide
noncomputable def tyL3 : List (Nat × Ty) := [(48, ⟨Tryz.t48, Tryz.t47.desc, true⟩), (49, ⟨Tryz.t49, Tryz.t49.desc, false⟩), (50, ⟨Tryz.t50, Tryz.t50.desc, false⟩), (51, ⟨Tryz.t51, Tryz.t51.desc, false⟩), (52, ⟨Tryz.t52, Tryz.t52.desc, false⟩), (53, ⟨Tryz.t53, Tryz.t53.desc, false⟩), (54, ⟨Tryz.t54, Tryz.t54.desc, true⟩), (55, ⟨Tryz.t55, Tryz.t54.desc, true⟩), (56, ⟨Tryz.t56, Tryz.t56.desc, false⟩), (57, ⟨Tryz.t57, Tryz.t57.desc, false⟩), (58, ⟨Tryz.t58, Tryz.t58.desc, true⟩), (59, ⟨Tryz.t59, Tryz.t58.desc, true⟩), (60, ⟨Tryz.t60, Tryz.t60.desc, false⟩), (61, ⟨Tryz.t61, Tryz.t61.desc, true⟩), (62, ⟨Tryz.t62, Tryz.t61.desc, true⟩), (63, ⟨Tryz.t63, Tryz.t63.desc, false⟩)]
theorem tyL3_ok : ∀ p ∈ tyL3, TyOk p :=
  cons_mem ⟨Tryz.typeInfo48, Tryz.underlying48, fun _ => ⟨Tryz.stoodInHeld48, Tryz.eqGuardType48, plain48⟩⟩ (cons_mem ⟨Tryz.typeInfo49, Tryz.underlying49, fun h => nomatch h⟩ (cons_mem ⟨Tryz.typeInfo50, Tryz.underlying50, fun h => nomatch h⟩ (cons_mem ⟨Tryz.typeInfo51, Tryz.underlying51, fun h => nomatch h⟩ (cons_mem ⟨Tryz.typeInfo52, Tryz.underlying52, fun h => nomatch h⟩ (cons_mem ⟨Tryz.typeInfo53, Tryz.underlying53, fun h => nomatch h⟩ (cons_mem ⟨Tryz.typeInfo54, Tryz.underlying54, fun _ => ⟨Tryz.stoodInHeld54, Tryz.eqGuardType54, plain54⟩⟩ (cons_mem ⟨Tryz.typeInfo55, Tryz.underlying55, fun _ => ⟨Tryz.stoodInHeld55, Tryz.eqGuardType55, plain55⟩⟩ (cons_mem ⟨Tryz.typeInfo56, Tryz.underlying56, fun h => nomatch h⟩ (cons_mem ⟨Tryz.typeInfo57, Tryz.underlying57, fun h => nomatch h⟩ (cons_mem ⟨Tryz.typeInfo58, Tryz.underlying58, fun _ => ⟨Tryz.stoodInHeld58, Tryz.eqGuardType58, plain58⟩⟩ (cons_mem ⟨Tryz.typeInfo59, Tryz.underlying59, fun _ => ⟨Tryz.stoodInHeld59, Tryz.eqGuardType59, plain59⟩⟩ (cons_mem ⟨Tryz.typeInfo60, Tryz.underlying60, fun h => nomatch h⟩ (cons_mem ⟨Tryz.typeInfo61, Tryz.underlying61, fun _ => ⟨Tryz.stoodInHeld61, Tryz.eqGuardType61, plain61⟩⟩ (cons_mem ⟨Tryz.typeInfo62, Tryz.underlying62, fun _ => ⟨Tryz.stoodInHeld62, Tryz.eqGuardType62, plain62⟩⟩ (cons_mem ⟨Tryz.typeInfo63, Tryz.underlying63, fun h => nomatch h⟩ nil_mem)))))))))))))))
theorem plain67 : ∀ f ∈ (Tryz.prog.fieldsOf 67).toList, f.name ≠ "_" := by
  have e : Tryz.prog.fieldsOf 67 = match Tryz.t67.desc with | .struct fs => fs | _ => #[] := by
    unfold Program.fieldsOf; rw [Tryz.underlying67]; rfl
  rw [e]; decide
theorem plain68 : ∀ f ∈ (Tryz.prog.fieldsOf 68).toList, f.name ≠ "_" := by
  have e : Tryz.prog.fieldsOf 68 = match Tryz.t67.desc with | .struct fs => fs | _ => #[] := by
    unfold Program.fieldsOf; rw [Tryz.underlying68]; rfl
  rw [e]; decide
theorem plain75 : ∀ f ∈ (Tryz.prog.fieldsOf 75).toList, f.name ≠ "_" := by
  have e : Tryz.prog.fieldsOf 75 = match Tryz.t75.desc with | .struct fs => fs | _ => #[] := by
    unfold Program.fieldsOf; rw [Tryz.underlying75]; rfl
  rw [e]; decide
theorem plain76 : ∀ f ∈ (Tryz.prog.fieldsOf 76).toList, f.name ≠ "_" := by
  have e : Tryz.prog.fieldsOf 76 = match Tryz.t75.desc with | .struct fs => fs | _ => #[] := by
    unfold Program.fieldsOf; rw [Tryz.underlying76]; rfl
  rw [e]; decide
noncomputable def tyL4 : List (Nat × Ty) := [(64, ⟨Tryz.t64, Tryz.t64.desc, false⟩), (65, ⟨Tryz.t65, Tryz.t65.desc, false⟩), (66, ⟨Tryz.t66, Tryz.t66.desc, false⟩), (67, ⟨Tryz.t67, Tryz.t67.desc, true⟩), (68, ⟨Tryz.t68, Tryz.t67.desc, true⟩), (69, ⟨Tryz.t69, Tryz.t69.desc, false⟩), (70, ⟨Tryz.t70, Tryz.t70.desc, false⟩), (71, ⟨Tryz.t71, Tryz.t71.desc, false⟩), (72, ⟨Tryz.t72, Tryz.t72.desc, false⟩), (73, ⟨Tryz.t73, Tryz.t73.desc, false⟩), (74, ⟨Tryz.t74, Tryz.t74.desc, false⟩), (75, ⟨Tryz.t75, Tryz.t75.desc, true⟩), (76, ⟨Tryz.t76, Tryz.t75.desc, true⟩), (77, ⟨Tryz.t77, Tryz.t77.desc, false⟩), (78, ⟨Tryz.t78, Tryz.t78.desc, false⟩), (79, ⟨Tryz.t79, Tryz.t79.desc, false⟩)]
theorem tyL4_ok : ∀ p ∈ tyL4, TyOk p :=
  cons_mem ⟨Tryz.typeInfo64, Tryz.underlying64, fun h => nomatch h⟩ (cons_mem ⟨Tryz.typeInfo65, Tryz.underlying65, fun h => nomatch h⟩ (cons_mem ⟨Tryz.typeInfo66, Tryz.underlying66, fun h => nomatch h⟩ (cons_mem ⟨Tryz.typeInfo67, Tryz.underlying67, fun _ => ⟨Tryz.stoodInHeld67, Tryz.eqGuardType67, plain67⟩⟩ (cons_mem ⟨Tryz.typeInfo68, Tryz.underlying68, fun _ => ⟨Tryz.stoodInHeld68, Tryz.eqGuardType68, plain68⟩⟩ (cons_mem ⟨Tryz.typeInfo69, Tryz.underlying69, fun h => nomatch h⟩ (cons_mem ⟨Tryz.typeInfo70, Tryz.underlying70, fun h => nomatch h⟩ (cons_mem ⟨Tryz.typeInfo71, Tryz.underlying71, fun h => nomatch h⟩ (cons_mem ⟨Tryz.typeInfo72, Tryz.underlying72, fun h => nomatch h⟩ (cons_mem ⟨Tryz.typeInfo73, Tryz.underlying73, fun h => nomatch h⟩ (cons_mem ⟨Tryz.typeInfo74, Tryz.underlying74, fun h => nomatch h⟩ (cons_mem ⟨Tryz.typeInfo75, Tryz.underlying75, fun _ => ⟨Tryz.stoodInHeld75, Tryz.eqGuardType75, plain75⟩⟩ (cons_mem ⟨Tryz.typeInfo76, Tryz.underlying76, fun _ => ⟨Tryz.stoodInHeld76, Tryz.eqGuardType76, plain76⟩⟩ (cons_mem ⟨Tryz.typeInfo77, Tryz.underlying77, fun h => nomatch h⟩ (cons_mem ⟨Tryz.typeInfo78, Tryz.underlying78, fun h => nomatch h⟩ (cons_mem ⟨Tryz.typeInfo79, Tryz.underlying79, fun h => nomatch h⟩ nil_mem)))))))))))))))
noncomputable def tyL5 : List (Nat × Ty) := [(80, ⟨Tryz.t80, Tryz.t80.desc, false⟩), (81, ⟨Tryz.t81, Tryz.t81.desc, false⟩), (82, ⟨Tryz.t82, Tryz.t82.desc, false⟩), (83, ⟨Tryz.t83, Tryz.t83.desc, false⟩), (84, ⟨Tryz.t84, Tryz.t84.desc, false⟩), (85, ⟨Tryz.t85, Tryz.t85.desc, false⟩), (86, ⟨Tryz.t86, Tryz.t86.desc, false⟩), (87, ⟨Tryz.t87, Tryz.t87.desc, false⟩), (88, ⟨Tryz.t88, Tryz.t88.desc, false⟩), (89, ⟨Tryz.t89, Tryz.t89.desc, false⟩), (90, ⟨Tryz.t90, Tryz.t90.desc, false⟩), (91, ⟨Tryz.t91, Tryz.t91.desc, false⟩), (92, ⟨Tryz.t92, Tryz.t92.desc, false⟩), (93, ⟨Tryz.t93, Tryz.t93.desc, false⟩), (94, ⟨Tryz.t94, Tryz.t94.desc, false⟩), (95, ⟨Tryz.t95, Tryz.t95.desc, false⟩)]
theorem tyL5_ok : ∀ p ∈ tyL5, TyOk p :=
  cons_mem ⟨Tryz.typeInfo80, Tryz.underlying80, fun h => nomatch h⟩ (cons_mem ⟨Tryz.typeInfo81, Tryz.underlying81, fun h => nomatch h⟩ (cons_mem ⟨Tryz.typeInfo82, Tryz.underlying82, fun h => nomatch h⟩ (cons_mem ⟨Tryz.typeInfo83, Tryz.underlying83, fun h => nomatch h⟩ (cons_mem ⟨Tryz.typeInfo84, Tryz.underlying84, fun h => nomatch h⟩ (cons_mem ⟨Tryz.typeInfo85, Tryz.underlying85, fun h => nomatch h⟩ (cons_mem ⟨Tryz.typeInfo86, Tryz.underlying86, fun h => nomatch h⟩ (cons_mem ⟨Tryz.typeInfo87, Tryz.underlying87, fun h => nomatch h⟩ (cons_mem ⟨Tryz.typeInfo88, Tryz.underlying88, fun h => nomatch h⟩ (cons_mem ⟨Tryz.typeInfo89, Tryz.underlying89, fun h => nomatch h⟩ (cons_mem ⟨Tryz.typeInfo90, Tryz.underlying90, fun h => nomatch h⟩ (cons_mem ⟨Tryz.typeInfo91, Tryz.underlying91, fun h => nomatch h⟩ (cons_mem ⟨Tryz.typeInfo92, Tryz.underlying92, fun h => nomatch h⟩ (cons_mem ⟨Tryz.typeInfo93, Tryz.underlying93, fun h => nomatch h⟩ (cons_mem ⟨Tryz.typeInfo94, Tryz.underlying94, fun h => nomatch h⟩ (cons_mem ⟨Tryz.typeInfo95, Tryz.underlying95, fun h => nomatch h⟩ nil_mem)))))))))))))))
theorem plain96 : ∀ f ∈ (Tryz.prog.fieldsOf 96).toList, f.name ≠ "_" := by
  have e : Tryz.prog.fieldsOf 96 = match Tryz.t96.desc with | .struct fs => fs | _ => #[] := by
    unfold Program.fieldsOf; rw [Tryz.underlying96]; rfl
  rw [e]; decide
theorem plain97 : ∀ f ∈ (Tryz.prog.fieldsOf 97).toList, f.name ≠ "_" := by
  have e : Tryz.prog.fieldsOf 97 = match Tryz.t96.desc with | .struct fs => fs | _ => #[] := by
    unfold Program.fieldsOf; rw [Tryz.underlying97]; rfl
  rw [e]; decide
theorem plain100 : ∀ f ∈ (Tryz.prog.fieldsOf 100).toList, f.name ≠ "_" := by
  have e : Tryz.prog.fieldsOf 100 = match Tryz.t100.desc with | .struct fs => fs | _ => #[] := by
    unfold Program.fieldsOf; rw [Tryz.underlying100]; rfl
  rw [e]; decide
theorem plain101 : ∀ f ∈ (Tryz.prog.fieldsOf 101).toList, f.name ≠ "_" := by
  have e : Tryz.prog.fieldsOf 101 = match Tryz.t100.desc with | .struct fs => fs | _ => #[] := by
    unfold Program.fieldsOf; rw [Tryz.underlying101]; rfl
  rw [e]; decide
theorem plain102 : ∀ f ∈ (Tryz.prog.fieldsOf 102).toList, f.name ≠ "_" := by
  have e : Tryz.prog.fieldsOf 102 = match Tryz.t102.desc with | .struct fs => fs | _ => #[] := by
    unfold Program.fieldsOf; rw [Tryz.underlying102]; rfl
  rw [e]; decide
theorem plain103 : ∀ f ∈ (Tryz.prog.fieldsOf 103).toList, f.name ≠ "_" := by
  have e : Tryz.prog.fieldsOf 103 = match Tryz.t102.desc with | .struct fs => fs | _ => #[] := by
    unfold Program.fieldsOf; rw [Tryz.underlying103]; rfl
  rw [e]; decide
theorem plain111 : ∀ f ∈ (Tryz.prog.fieldsOf 111).toList, f.name ≠ "_" := by
  have e : Tryz.prog.fieldsOf 111 = match Tryz.t111.desc with | .struct fs => fs | _ => #[] := by
    unfold Program.fieldsOf; rw [Tryz.underlying111]; rfl
  rw [e]; decide
noncomputable def tyL6 : List (Nat × Ty) := [(96, ⟨Tryz.t96, Tryz.t96.desc, true⟩), (97, ⟨Tryz.t97, Tryz.t96.desc, true⟩), (98, ⟨Tryz.t98, Tryz.t98.desc, false⟩), (99, ⟨Tryz.t99, Tryz.t99.desc, false⟩), (100, ⟨Tryz.t100, Tryz.t100.desc, true⟩), (101, ⟨Tryz.t101, Tryz.t100.desc, true⟩), (102, ⟨Tryz.t102, Tryz.t102.desc, true⟩), (103, ⟨Tryz.t103, Tryz.t102.desc, true⟩), (104, ⟨Tryz.t104, Tryz.t104.desc, false⟩), (105, ⟨Tryz.t105, Tryz.t105.desc, false⟩), (106, ⟨Tryz.t106, Tryz.t106.desc, false⟩), (107, ⟨Tryz.t107, Tryz.t107.desc, false⟩), (108, ⟨Tryz.t108, Tryz.t108.desc, false⟩), (109, ⟨Tryz.t109, Tryz.t109.desc, false⟩), (110, ⟨Tryz.t110, Tryz.t110.desc, false⟩), (111, ⟨Tryz.t111, Tryz.t111.desc, true⟩)]
theorem tyL6_ok : ∀ p ∈ tyL6, TyOk p :=
  cons_mem ⟨Tryz.typeInfo96, Tryz.underlying96, fun _ => ⟨Tryz.stoodInHeld96, Tryz.eqGuardType96, plain96⟩⟩ (cons_mem ⟨Tryz.typeInfo97, Tryz.underlying97, fun _ => ⟨Tryz.stoodInHeld97, Tryz.eqGuardType97, plain97⟩⟩ (cons_mem ⟨Tryz.typeInfo98, Tryz.underlying98, fun h => nomatch h⟩ (cons_mem ⟨Tryz.typeInfo99, Tryz.underlying99, fun h => nomatch h⟩ (cons_mem ⟨Tryz.typeInfo100, Tryz.underlying100, fun _ => ⟨Tryz.stoodInHeld100, Tryz.eqGuardType100, plain100⟩⟩ (cons_mem ⟨Tryz.typeInfo101, Tryz.underlying101, fun _ => ⟨Tryz.stoodInHeld101, Tryz.eqGuardType101, plain101⟩⟩ (cons_mem ⟨Tryz.typeInfo102, Tryz.underlying102, fun _ => ⟨Tryz.stoodInHeld102, Tryz.eqGuardType102, plain102⟩⟩ (cons_mem ⟨Tryz.typeInfo103, Tryz.underlying103, fun _ => ⟨Tryz.stoodInHeld103, Tryz.eqGuardType103, plain103⟩⟩ (cons_mem ⟨Tryz.typeInfo104, Tryz.underlying104, fun h => nomatch h⟩ (cons_mem ⟨Tryz.typeInfo105, Tryz.underlying105, fun h => nomatch h⟩ (cons_mem ⟨Tryz.typeInfo106, Tryz.underlying106, fun h => nomatch h⟩ (cons_mem ⟨Tryz.typeInfo107, Tryz.underlying107, fun h => nomatch h⟩ (cons_mem ⟨Tryz.typeInfo108, Tryz.underlying108, fun h => nomatch h⟩ (cons_mem ⟨Tryz.typeInfo109, Tryz.underlying109, fun h => nomatch h⟩ (cons_mem ⟨Tryz.typeInfo110, Tryz.underlying110, fun h => nomatch h⟩ (cons_mem ⟨Tryz.typeInfo111, Tryz.underlying111, fun _ => ⟨Tryz.stoodInHeld111, Tryz.eqGuardType111, plain111⟩⟩ nil_mem)))))))))))))))
theorem plain112 : ∀ f ∈ (Tryz.prog.fieldsOf 112).toList, f.name ≠ "_" := by
  have e : Tryz.prog.fieldsOf 112 = match Tryz.t111.desc with | .struct fs => fs | _ => #[] := by
    unfold Program.fieldsOf; rw [Tryz.underlying112]; rfl
  rw [e]; decide
theorem plain118 : ∀ f ∈ (Tryz.prog.fieldsOf 118).toList, f.name ≠ "_" := by
  have e : Tryz.prog.fieldsOf 118 = match Tryz.t118.desc with | .struct fs => fs | _ => #[] := by
    unfold Program.fieldsOf; rw [Tryz.underlying118]; rfl
  rw [e]; decide
theorem plain119 : ∀ f ∈ (Tryz.prog.fieldsOf 119).toList, f.name ≠ "_" := by
  have e : Tryz.prog.fieldsOf 119 = match Tryz.t118.desc with | .struct fs => fs | _ => #[] := by
    unfold Program.fieldsOf; rw [Tryz.underlying119]; rfl
  rw [e]; decide
theorem plain126 : ∀ f ∈ (Tryz.prog.fieldsOf 126).toList, f.name ≠ "_" := by
  have e : Tryz.prog.fieldsOf 126 = match Tryz.t126.desc with | .struct fs => fs | _ => #[] := by
    unfold Program.fieldsOf; rw [Tryz.underlying126]; rfl
  rw [e]; decide
theorem plain127 : ∀ f ∈ (Tryz.prog.fieldsOf 127).toList, f.name ≠ "_" := by
  have e : Tryz.prog.fieldsOf 127 = match Tryz.t126.desc with | .struct fs => fs | _ => #[] := by
    unfold Program.fieldsOf; rw [Tryz.underlying127]; rfl
  rw [e]; decide
noncomputable def tyL7 : List (Nat × Ty) := [(112, ⟨Tryz.t112, Tryz.t111.desc, true⟩), (113, ⟨Tryz.t113, Tryz.t113.desc, false⟩), (114, ⟨Tryz.t114, Tryz.t114.desc, false⟩), (115, ⟨Tryz.t115, Tryz.t115.desc, false⟩), (116, ⟨Tryz.t116, Tryz.t116.desc, false⟩), (117, ⟨Tryz.t117, Tryz.t117.desc, false⟩), (118, ⟨Tryz.t118, Tryz.t118.desc, true⟩), (119, ⟨Tryz.t119, Tryz.t118.desc, true⟩), (120, ⟨Tryz.t120, Tryz.t120.desc, false⟩), (121, ⟨Tryz.t121, Tryz.t121.desc, false⟩), (122, ⟨Tryz.t122, Tryz.t122.desc, false⟩), (123, ⟨Tryz.t123, Tryz.t123.desc, false⟩), (124, ⟨Tryz.t124, Tryz.t124.desc, false⟩), (125, ⟨Tryz.t125, Tryz.t125.desc, false⟩), (126, ⟨Tryz.t126, Tryz.t126.desc, true⟩), (127, ⟨Tryz.t127, Tryz.t126.desc, true⟩)]
theorem tyL7_ok : ∀ p ∈ tyL7, TyOk p :=
  cons_mem ⟨Tryz.typeInfo112, Tryz.underlying112, fun _ => ⟨Tryz.stoodInHeld112, Tryz.eqGuardType112, plain112⟩⟩ (cons_mem ⟨Tryz.typeInfo113, Tryz.underlying113, fun h => nomatch h⟩ (cons_mem ⟨Tryz.typeInfo114, Tryz.underlying114, fun h => nomatch h⟩ (cons_mem ⟨Tryz.typeInfo115, Tryz.underlying115, fun h => nomatch h⟩ (cons_mem ⟨Tryz.typeInfo116, Tryz.underlying116, fun h => nomatch h⟩ (cons_mem ⟨Tryz.typeInfo117, Tryz.underlying117, fun h => nomatch h⟩ (cons_mem ⟨Tryz.typeInfo118, Tryz.underlying118, fun _ => ⟨Tryz.stoodInHeld118, Tryz.eqGuardType118, plain118⟩⟩ (cons_mem ⟨Tryz.typeInfo119, Tryz.underlying119, fun _ => ⟨Tryz.stoodInHeld119, Tryz.eqGuardType119, plain119⟩⟩ (cons_mem ⟨Tryz.typeInfo120, Tryz.underlying120, fun h => nomatch h⟩ (cons_mem ⟨Tryz.typeInfo121, Tryz.underlying121, fun h => nomatch h⟩ (cons_mem ⟨Tryz.typeInfo122, Tryz.underlying122, fun h => nomatch h⟩ (cons_mem ⟨Tryz.typeInfo123, Tryz.underlying123, fun h => nomatch h⟩ (cons_mem ⟨Tryz.typeInfo124, Tryz.underlying124, fun h => nomatch h⟩ (cons_mem ⟨Tryz.typeInfo125, Tryz.underlying125, fun h => nomatch h⟩ (cons_mem ⟨Tryz.typeInfo126, Tryz.underlying126, fun _ => ⟨Tryz.stoodInHeld126, Tryz.eqGuardType126, plain126⟩⟩ (cons_mem ⟨Tryz.typeInfo127, Tryz.underlying127, fun _ => ⟨Tryz.stoodInHeld127, Tryz.eqGuardType127, plain127⟩⟩ nil_mem)))))))))))))))
theorem plain131 : ∀ f ∈ (Tryz.prog.fieldsOf 131).toList, f.name ≠ "_" := by
  have e : Tryz.prog.fieldsOf 131 = match Tryz.t131.desc with | .struct fs => fs | _ => #[] := by
    unfold Program.fieldsOf; rw [Tryz.underlying131]; rfl
  rw [e]; decide
theorem plain132 : ∀ f ∈ (Tryz.prog.fieldsOf 132).toList, f.name ≠ "_" := by
  have e : Tryz.prog.fieldsOf 132 = match Tryz.t131.desc with | .struct fs => fs | _ => #[] := by
    unfold Program.fieldsOf; rw [Tryz.underlying132]; rfl
  rw [e]; decide
noncomputable def tyL8 : List (Nat × Ty) := [(128, ⟨Tryz.t128, Tryz.t128.desc, false⟩), (129, ⟨Tryz.t129, Tryz.t129.desc, false⟩), (130, ⟨Tryz.t130, Tryz.t130.desc, false⟩), (131, ⟨Tryz.t131, Tryz.t131.desc, true⟩), (132, ⟨Tryz.t132, Tryz.t131.desc, true⟩), (133, ⟨Tryz.t133, Tryz.t133.desc, false⟩), (134, ⟨Tryz.t134, Tryz.t134.desc, false⟩), (135, ⟨Tryz.t135, Tryz.t135.desc, false⟩), (136, ⟨Tryz.t136, Tryz.t136.desc, false⟩), (137, ⟨Tryz.t137, Tryz.t137.desc, false⟩), (138, ⟨Tryz.t138, Tryz.t138.desc, false⟩), (139, ⟨Tryz.t139, Tryz.t139.desc, false⟩), (140, ⟨Tryz.t140, Tryz.t140.desc, false⟩), (141, ⟨Tryz.t141, Tryz.t141.desc, false⟩), (142, ⟨Tryz.t142, Tryz.t142.desc, false⟩), (143, ⟨Tryz.t143, Tryz.t143.desc, false⟩)]
theorem tyL8_ok : ∀ p ∈ tyL8, TyOk p :=
  cons_mem ⟨Tryz.typeInfo128, Tryz.underlying128, fun h => nomatch h⟩ (cons_mem ⟨Tryz.typeInfo129, Tryz.underlying129, fun h => nomatch h⟩ (cons_mem ⟨Tryz.typeInfo130, Tryz.underlying130, fun h => nomatch h⟩ (cons_mem ⟨Tryz.typeInfo131, Tryz.underlying131, fun _ => ⟨Tryz.stoodInHeld131, Tryz.eqGuardType131, plain131⟩⟩ (cons_mem ⟨Tryz.typeInfo132, Tryz.underlying132, fun _ => ⟨Tryz.stoodInHeld132, Tryz.eqGuardType132, plain132⟩⟩ (cons_mem ⟨Tryz.typeInfo133, Tryz.underlying133, fun h => nomatch h⟩ (cons_mem ⟨Tryz.typeInfo134, Tryz.underlying134, fun h => nomatch h⟩ (cons_mem ⟨Tryz.typeInfo135, Tryz.underlying135, fun h => nomatch h⟩ (cons_mem ⟨Tryz.typeInfo136, Tryz.underlying136, fun h => nomatch h⟩ (cons_mem ⟨Tryz.typeInfo137, Tryz.underlying137, fun h => nomatch h⟩ (cons_mem ⟨Tryz.typeInfo138, Tryz.underlying138, fun h => nomatch h⟩ (cons_mem ⟨Tryz.typeInfo139, Tryz.underlying139, fun h => nomatch h⟩ (cons_mem ⟨Tryz.typeInfo140, Tryz.underlying140, fun h => nomatch h⟩ (cons_mem ⟨Tryz.typeInfo141, Tryz.underlying141, fun h => nomatch h⟩ (cons_mem ⟨Tryz.typeInfo142, Tryz.underlying142, fun h => nomatch h⟩ (cons_mem ⟨Tryz.typeInfo143, Tryz.underlying143, fun h => nomatch h⟩ nil_mem)))))))))))))))
theorem plain151 : ∀ f ∈ (Tryz.prog.fieldsOf 151).toList, f.name ≠ "_" := by
  have e : Tryz.prog.fieldsOf 151 = match Tryz.t151.desc with | .struct fs => fs | _ => #[] := by
    unfold Program.fieldsOf; rw [Tryz.underlying151]; rfl
  rw [e]; decide
theorem plain152 : ∀ f ∈ (Tryz.prog.fieldsOf 152).toList, f.name ≠ "_" := by
  have e : Tryz.prog.fieldsOf 152 = match Tryz.t151.desc with | .struct fs => fs | _ => #[] := by
    unfold Program.fieldsOf; rw [Tryz.underlying152]; rfl
  rw [e]; decide
noncomputable def tyL9 : List (Nat × Ty) := [(144, ⟨Tryz.t144, Tryz.t144.desc, false⟩), (145, ⟨Tryz.t145, Tryz.t145.desc, false⟩), (146, ⟨Tryz.t146, Tryz.t146.desc, false⟩), (147, ⟨Tryz.t147, Tryz.t147.desc, false⟩), (148, ⟨Tryz.t148, Tryz.t148.desc, false⟩), (149, ⟨Tryz.t149, Tryz.t149.desc, false⟩), (150, ⟨Tryz.t150, Tryz.t150.desc, false⟩), (151, ⟨Tryz.t151, Tryz.t151.desc, true⟩), (152, ⟨Tryz.t152, Tryz.t151.desc, true⟩), (153, ⟨Tryz.t153, Tryz.t153.desc, false⟩), (154, ⟨Tryz.t154, Tryz.t154.desc, false⟩), (155, ⟨Tryz.t155, Tryz.t155.desc, false⟩), (156, ⟨Tryz.t156, Tryz.t156.desc, false⟩), (157, ⟨Tryz.t157, Tryz.t157.desc, false⟩), (158, ⟨Tryz.t158, Tryz.t157.desc, false⟩), (159, ⟨Tryz.t159, Tryz.t159.desc, false⟩)]
theorem tyL9_ok : ∀ p ∈ tyL9, TyOk p :=
  cons_mem ⟨Tryz.typeInfo144, Tryz.underlying144, fun h => nomatch h⟩ (cons_mem ⟨Tryz.typeInfo145, Tryz.underlying145, fun h => nomatch h⟩ (cons_mem ⟨Tryz.typeInfo146, Tryz.underlying146, fun h => nomatch h⟩ (cons_mem ⟨Tryz.typeInfo147, Tryz.underlying147, fun h => nomatch h⟩ (cons_mem ⟨Tryz.typeInfo148, Tryz.underlying148, fun h => nomatch h⟩ (cons_mem ⟨Tryz.typeInfo149, Tryz.underlying149, fun h => nomatch h⟩ (cons_mem ⟨Tryz.typeInfo150, Tryz.underlying150, fun h => nomatch h⟩ (cons_mem ⟨Tryz.typeInfo151, Tryz.underlying151, fun _ => ⟨Tryz.stoodInHeld151, Tryz.eqGuardType151, plain151⟩⟩ (cons_mem ⟨Tryz.typeInfo152, Tryz.underlying152, fun _ => ⟨Tryz.stoodInHeld152, Tryz.eqGuardType152, plain152⟩⟩ (cons_mem ⟨Tryz.typeInfo153, Tryz.underlying153, fun h => nomatch h⟩ (cons_mem ⟨Tryz.typeInfo154, Tryz.underlying154, fun h => nomatch h⟩ (cons_mem ⟨Tryz.typeInfo155, Tryz.underlying155, fun h => nomatch h⟩ (cons_mem ⟨Tryz.typeInfo156, Tryz.underlying156, fun h => nomatch h⟩ (cons_mem ⟨Tryz.typeInfo157, Tryz.underlying157, fun h => nomatch h⟩ (cons_mem ⟨Tryz.typeInfo158, Tryz.underlying158, fun h => nomatch h⟩ (cons_mem ⟨Tryz.typeInfo159, Tryz.underlying159, fun h => nomatch h⟩ nil_mem)))))))))))))))
noncomputable def tyL10 : List (Nat × Ty) := [(160, ⟨Tryz.t160, Tryz.t160.desc, false⟩), (161, ⟨Tryz.t161, Tryz.t160.desc, false⟩), (162, ⟨Tryz.t162, Tryz.t162.desc, false⟩), (163, ⟨Tryz.t163, Tryz.t5.desc, false⟩), (164, ⟨Tryz.t164, Tryz.t5.desc, false⟩), (165, ⟨Tryz.t165, Tryz.t165.desc, false⟩), (166, ⟨Tryz.t166, Tryz.t166.desc, false⟩), (167, ⟨Tryz.t167, Tryz.t21.desc, false⟩), (168, ⟨Tryz.t168, Tryz.t21.desc, false⟩), (169, ⟨Tryz.t169, Tryz.t169.desc, false⟩), (170, ⟨Tryz.t170, Tryz.t169.desc, false⟩), (171, ⟨Tryz.t171, Tryz.t171.desc, false⟩)]
theorem tyL10_ok : ∀ p ∈ tyL10, TyOk p :=
  cons_mem ⟨Tryz.typeInfo160, Tryz.underlying160, fun h => nomatch h⟩ (cons_mem ⟨Tryz.typeInfo161, Tryz.underlying161, fun h => nomatch h⟩ (cons_mem ⟨Tryz.typeInfo162, Tryz.underlying162, fun h => nomatch h⟩ (cons_mem ⟨Tryz.typeInfo163, Tryz.underlying163, fun h => nomatch h⟩ (cons_mem ⟨Tryz.typeInfo164, Tryz.underlying164, fun h => nomatch h⟩ (cons_mem ⟨Tryz.typeInfo165, Tryz.underlying165, fun h => nomatch h⟩ (cons_mem ⟨Tryz.typeInfo166, Tryz.underlying166, fun h => nomatch h⟩ (cons_mem ⟨Tryz.typeInfo167, Tryz.underlying167, fun h => nomatch h⟩ (cons_mem ⟨Tryz.typeInfo168, Tryz.underlying168, fun h => nomatch h⟩ (cons_mem ⟨Tryz.typeInfo169, Tryz.underlying169, fun h => nomatch h⟩ (cons_mem ⟨Tryz.typeInfo170, Tryz.underlying170, fun h => nomatch h⟩ (cons_mem ⟨Tryz.typeInfo171, Tryz.underlying171, fun h => nomatch h⟩ nil_mem)))))))))))
noncomputable def tyL : List (Nat × Ty) := tyL0 ++ tyL1 ++ tyL2 ++ tyL3 ++ tyL4 ++ tyL5 ++ tyL6 ++ tyL7 ++ tyL8 ++ tyL9 ++ tyL10
theorem tyL_ok : ∀ p ∈ tyL, TyOk p := app_mem (app_mem (app_mem (app_mem (app_mem (app_mem (app_mem (app_mem (app_mem (app_mem (tyL0_ok) tyL1_ok) tyL2_ok) tyL3_ok) tyL4_ok) tyL5_ok) tyL6_ok) tyL7_ok) tyL8_ok) tyL9_ok) tyL10_ok
noncomputable def fnL0 : List (Nat × Func) := [(2, Tryz.f2), (3, Tryz.f3), (4, Tryz.f4), (5, Tryz.f5), (6, Tryz.f6), (7, Tryz.f7), (8, Tryz.f8), (9, Tryz.f9), (10, Tryz.f10), (11, Tryz.f11), (12, Tryz.f12), (13, Tryz.f13), (14, Tryz.f14), (15, Tryz.f15), (16, Tryz.f16), (17, Tryz.f17)]
theorem fnL0_ok : ∀ p ∈ fnL0, FnOk p :=
  cons_mem ⟨Tryz.func2, Tryz.call2⟩ (cons_mem ⟨Tryz.func3, Tryz.call3⟩ (cons_mem ⟨Tryz.func4, Tryz.call4⟩ (cons_mem ⟨Tryz.func5, Tryz.call5⟩ (cons_mem ⟨Tryz.func6, Tryz.call6⟩ (cons_mem ⟨Tryz.func7, Tryz.call7⟩ (cons_mem ⟨Tryz.func8, Tryz.call8⟩ (cons_mem ⟨Tryz.func9, Tryz.call9⟩ (cons_mem ⟨Tryz.func10, Tryz.call10⟩ (cons_mem ⟨Tryz.func11, Tryz.call11⟩ (cons_mem ⟨Tryz.func12, Tryz.call12⟩ (cons_mem ⟨Tryz.func13, Tryz.call13⟩ (cons_mem ⟨Tryz.func14, Tryz.call14⟩ (cons_mem ⟨Tryz.func15, Tryz.call15⟩ (cons_mem ⟨Tryz.func16, Tryz.call16⟩ (cons_mem ⟨Tryz.func17, Tryz.call17⟩ (nil_mem))))))))))))))))
noncomputable def fnL1 : List (Nat × Func) := [(18, Tryz.f18), (19, Tryz.f19), (20, Tryz.f20), (21, Tryz.f21), (22, Tryz.f22), (23, Tryz.f23), (24, Tryz.f24), (25, Tryz.f25), (26, Tryz.f26), (27, Tryz.f27), (28, Tryz.f28), (29, Tryz.f29), (30, Tryz.f30), (31, Tryz.f31), (32, Tryz.f32), (33, Tryz.f33)]
theorem fnL1_ok : ∀ p ∈ fnL1, FnOk p :=
  cons_mem ⟨Tryz.func18, Tryz.call18⟩ (cons_mem ⟨Tryz.func19, Tryz.call19⟩ (cons_mem ⟨Tryz.func20, Tryz.call20⟩ (cons_mem ⟨Tryz.func21, Tryz.call21⟩ (cons_mem ⟨Tryz.func22, Tryz.call22⟩ (cons_mem ⟨Tryz.func23, Tryz.call23⟩ (cons_mem ⟨Tryz.func24, Tryz.call24⟩ (cons_mem ⟨Tryz.func25, Tryz.call25⟩ (cons_mem ⟨Tryz.func26, Tryz.call26⟩ (cons_mem ⟨Tryz.func27, Tryz.call27⟩ (cons_mem ⟨Tryz.func28, Tryz.call28⟩ (cons_mem ⟨Tryz.func29, Tryz.call29⟩ (cons_mem ⟨Tryz.func30, Tryz.call30⟩ (cons_mem ⟨Tryz.func31, Tryz.call31⟩ (cons_mem ⟨Tryz.func32, Tryz.call32⟩ (cons_mem ⟨Tryz.func33, Tryz.call33⟩ (nil_mem))))))))))))))))
noncomputable def fnL2 : List (Nat × Func) := [(34, Tryz.f34), (35, Tryz.f35), (36, Tryz.f36), (37, Tryz.f37), (38, Tryz.f38), (39, Tryz.f39), (40, Tryz.f40), (41, Tryz.f41), (42, Tryz.f42), (43, Tryz.f43), (44, Tryz.f44), (45, Tryz.f45), (46, Tryz.f46), (47, Tryz.f47), (48, Tryz.f48), (49, Tryz.f49)]
theorem fnL2_ok : ∀ p ∈ fnL2, FnOk p :=
  cons_mem ⟨Tryz.func34, Tryz.call34⟩ (cons_mem ⟨Tryz.func35, Tryz.call35⟩ (cons_mem ⟨Tryz.func36, Tryz.call36⟩ (cons_mem ⟨Tryz.func37, Tryz.call37⟩ (cons_mem ⟨Tryz.func38, Tryz.call38⟩ (cons_mem ⟨Tryz.func39, Tryz.call39⟩ (cons_mem ⟨Tryz.func40, Tryz.call40⟩ (cons_mem ⟨Tryz.func41, Tryz.call41⟩ (cons_mem ⟨Tryz.func42, Tryz.call42⟩ (cons_mem ⟨Tryz.func43, Tryz.call43⟩ (cons_mem ⟨Tryz.func44, Tryz.call44⟩ (cons_mem ⟨Tryz.func45, Tryz.call45⟩ (cons_mem ⟨Tryz.func46, Tryz.call46⟩ (cons_mem ⟨Tryz.func47, Tryz.call47⟩ (cons_mem ⟨Tryz.func48, Tryz.call48⟩ (cons_mem ⟨Tryz.func49, Tryz.call49⟩ (nil_mem))))))))))))))))
noncomputable def fnL3 : List (Nat × Func) := [(50, Tryz.f50), (51, Tryz.f51), (52, Tryz.f52), (53, Tryz.f53), (54, Tryz.f54), (55, Tryz.f55), (56, Tryz.f56), (57, Tryz.f57), (58, Tryz.f58), (59, Tryz.f59), (60, Tryz.f60), (61, Tryz.f61), (62, Tryz.f62), (63, Tryz.f63), (64, Tryz.f64), (65, Tryz.f65)]
theorem fnL3_ok : ∀ p ∈ fnL3, FnOk p :=
  cons_mem ⟨Tryz.func50, Tryz.call50⟩ (cons_mem ⟨Tryz.func51, Tryz.call51⟩ (cons_mem ⟨Tryz.func52, Tryz.call52⟩ (cons_mem ⟨Tryz.func53, Tryz.call53⟩ (cons_mem ⟨Tryz.func54, Tryz.call54⟩ (cons_mem ⟨Tryz.func55, Tryz.call55⟩ (cons_mem ⟨Tryz.func56, Tryz.call56⟩ (cons_mem ⟨Tryz.func57, Tryz.call57⟩ (cons_mem ⟨Tryz.func58, Tryz.call58⟩ (cons_mem ⟨Tryz.func59, Tryz.call59⟩ (cons_mem ⟨Tryz.func60, Tryz.call60⟩ (cons_mem ⟨Tryz.func61, Tryz.call61⟩ (cons_mem ⟨Tryz.func62, Tryz.call62⟩ (cons_mem ⟨Tryz.func63, Tryz.call63⟩ (cons_mem ⟨Tryz.func64, Tryz.call64⟩ (cons_mem ⟨Tryz.func65, Tryz.call65⟩ (nil_mem))))))))))))))))
noncomputable def fnL4 : List (Nat × Func) := [(66, Tryz.f66), (67, Tryz.f67), (68, Tryz.f68), (69, Tryz.f69), (70, Tryz.f70), (71, Tryz.f71), (72, Tryz.f72), (73, Tryz.f73), (74, Tryz.f74), (75, Tryz.f75), (76, Tryz.f76), (77, Tryz.f77), (78, Tryz.f78), (79, Tryz.f79), (80, Tryz.f80), (81, Tryz.f81)]
theorem fnL4_ok : ∀ p ∈ fnL4, FnOk p :=
  cons_mem ⟨Tryz.func66, Tryz.call66⟩ (cons_mem ⟨Tryz.func67, Tryz.call67⟩ (cons_mem ⟨Tryz.func68, Tryz.call68⟩ (cons_mem ⟨Tryz.func69, Tryz.call69⟩ (cons_mem ⟨Tryz.func70, Tryz.call70⟩ (cons_mem ⟨Tryz.func71, Tryz.call71⟩ (cons_mem ⟨Tryz.func72, Tryz.call72⟩ (cons_mem ⟨Tryz.func73, Tryz.call73⟩ (cons_mem ⟨Tryz.func74, Tryz.call74⟩ (cons_mem ⟨Tryz.func75, Tryz.call75⟩ (cons_mem ⟨Tryz.func76, Tryz.call76⟩ (cons_mem ⟨Tryz.func77, Tryz.call77⟩ (cons_mem ⟨Tryz.func78, Tryz.call78⟩ (cons_mem ⟨Tryz.func79, Tryz.call79⟩ (cons_mem ⟨Tryz.func80, Tryz.call80⟩ (cons_mem ⟨Tryz.func81, Tryz.call81⟩ (nil_mem))))))))))))))))
noncomputable def fnL5 : List (Nat × Func) := [(82, Tryz.f82), (83, Tryz.f83), (84, Tryz.f84), (85, Tryz.f85), (86, Tryz.f86), (87, Tryz.f87), (88, Tryz.f88), (89, Tryz.f89), (90, Tryz.f90), (91, Tryz.f91), (92, Tryz.f92), (93, Tryz.f93), (94, Tryz.f94), (95, Tryz.f95), (96, Tryz.f96), (97, Tryz.f97)]
theorem fnL5_ok : ∀ p ∈ fnL5, FnOk p :=
  cons_mem ⟨Tryz.func82, Tryz.call82⟩ (cons_mem ⟨Tryz.func83, Tryz.call83⟩ (cons_mem ⟨Tryz.func84, Tryz.call84⟩ (cons_mem ⟨Tryz.func85, Tryz.call85⟩ (cons_mem ⟨Tryz.func86, Tryz.call86⟩ (cons_mem ⟨Tryz.func87, Tryz.call87⟩ (cons_mem ⟨Tryz.func88, Tryz.call88⟩ (cons_mem ⟨Tryz.func89, Tryz.call89⟩ (cons_mem ⟨Tryz.func90, Tryz.call90⟩ (cons_mem ⟨Tryz.func91, Tryz.call91⟩ (cons_mem ⟨Tryz.func92, Tryz.call92⟩ (cons_mem ⟨Tryz.func93, Tryz.call93⟩ (cons_mem ⟨Tryz.func94, Tryz.call94⟩ (cons_mem ⟨Tryz.func95, Tryz.call95⟩ (cons_mem ⟨Tryz.func96, Tryz.call96⟩ (cons_mem ⟨Tryz.func97, Tryz.call97⟩ (nil_mem))))))))))))))))
noncomputable def fnL6 : List (Nat × Func) := [(98, Tryz.f98), (99, Tryz.f99), (100, Tryz.f100), (101, Tryz.f101), (102, Tryz.f102), (103, Tryz.f103), (104, Tryz.f104), (105, Tryz.f105), (106, Tryz.f106), (107, Tryz.f107), (108, Tryz.f108), (109, Tryz.f109), (110, Tryz.f110), (111, Tryz.f111), (112, Tryz.f112), (113, Tryz.f113)]
theorem fnL6_ok : ∀ p ∈ fnL6, FnOk p :=
  cons_mem ⟨Tryz.func98, Tryz.call98⟩ (cons_mem ⟨Tryz.func99, Tryz.call99⟩ (cons_mem ⟨Tryz.func100, Tryz.call100⟩ (cons_mem ⟨Tryz.func101, Tryz.call101⟩ (cons_mem ⟨Tryz.func102, Tryz.call102⟩ (cons_mem ⟨Tryz.func103, Tryz.call103⟩ (cons_mem ⟨Tryz.func104, Tryz.call104⟩ (cons_mem ⟨Tryz.func105, Tryz.call105⟩ (cons_mem ⟨Tryz.func106, Tryz.call106⟩ (cons_mem ⟨Tryz.func107, Tryz.call107⟩ (cons_mem ⟨Tryz.func108, Tryz.call108⟩ (cons_mem ⟨Tryz.func109, Tryz.call109⟩ (cons_mem ⟨Tryz.func110, Tryz.call110⟩ (cons_mem ⟨Tryz.func111, Tryz.call111⟩ (cons_mem ⟨Tryz.func112, Tryz.call112⟩ (cons_mem ⟨Tryz.func113, Tryz.call113⟩ (nil_mem))))))))))))))))
noncomputable def fnL : List (Nat × Func) := fnL0 ++ fnL1 ++ fnL2 ++ fnL3 ++ fnL4 ++ fnL5 ++ fnL6
theorem fnL_ok : ∀ p ∈ fnL, FnOk p := app_mem (app_mem (app_mem (app_mem (app_mem (app_mem (fnL0_ok) fnL1_ok) fnL2_ok) fnL3_ok) fnL4_ok) fnL5_ok) fnL6_ok
noncomputable def tyT : Tr Ty := Tr.ofL tyL
noncomputable def fnT : Tr Func := Tr.ofL fnL
noncomputable def tabW (orc : List Orc) (mmo : List Mmo) (ctr : List Ctr) : Tab := ⟨tyT, fnT, orc, mmo, ctr⟩
theorem tyT_eq {orc : List Orc} {mmo : List Mmo} {ctr : List Ctr} : (tabW orc mmo ctr).ty = Tr.ofL tyL := by
  unfold tabW tyT
  dsimp only
theorem fnT_eq {orc : List Orc} {mmo : List Mmo} {ctr : List Ctr} : (tabW orc mmo ctr).fn = Tr.ofL fnL := by
  unfold tabW fnT
  dsimp only
theorem tab_ok {σ : Nat → Int} {orc : List Orc} {mmo : List Mmo} {ctr : List Ctr}
    (h1 : ∀ e ∈ orc, flatV e.v = true ∧ ∃ a b, (∀ E, den σ E e.x = .int .i64 a) ∧ (∀ E, den σ E e.y = .int .i64 b) ∧ intB e.op .i64 a b = some (den σ E00 e.v))
    (h2 : ∀ e ∈ mmo, flatV e.v = true ∧ ∃ a b, (∀ E, den σ E e.x = .int .i64 a) ∧ (∀ E, den σ E e.y = .int .i64 b) ∧ den σ E00 e.v = .int .i64 (if e.mx then (if b > a then b else a) else (if b < a then b else a)))
    (h3 : ∀ e ∈ ctr, flatV e.v = true ∧ e.args.all flatV = true ∧ ∀ w, Calls Tryz.prog e.f (e.args.map (den σ E00)).toArray w fun r w' => r = .returned (den σ E00 e.v) ∧ RowKit.Below w.heap.size w w') :
    (tabW orc mmo ctr).Ok σ Tryz.prog where
  info t y h := (tyL_ok (t, y) (Tr.get_of_eq tyT_eq h)).1
  desc t y h := (tyL_ok (t, y) (Tr.get_of_eq tyT_eq h)).2.1
  plain t y h := (tyL_ok (t, y) (Tr.get_of_eq tyT_eq h)).2.2
  fn f g h := (fnL_ok (f, g) (Tr.get_of_eq fnT_eq h)).1
  call f g h := (fnL_ok (f, g) (Tr.get_of_eq fnT_eq h)).2
  mixed := by kernel_rfl
  orc := h1
  mmo := h2
  ctr := h3
theorem tab_plain {σ : Nat → Int} : (tabW [] [] []).Ok σ Tryz.prog := tab_ok nil_mem nil_mem nil_mem
end Go.Proofs.YtbjaiijdhboioaaGreat
