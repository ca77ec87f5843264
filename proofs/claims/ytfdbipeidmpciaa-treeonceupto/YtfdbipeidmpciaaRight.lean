/- tree.rightAlone, for every tree. Condition: texts of at most 2^63 letters, which every text has. -/
import Derived.Test.YtfdbipeidmpciaaGoodA
import Derived.Test.YtfdbipeidmpciaaMath
namespace Go.Proofs.Ytfdbipeidmpciaa
open Go.ChangeShapes Go.WideShapes Go.ChangeAt Go.RowKit
set_option maxRecDepth 100000
def qt (t:Tr):Bool :=
 if t.text then !t.s.toList.isEmpty&&za t.s&&decide (t.attrs.length=0)&&decide (t.kids.length=0)
 else zo t.s&&zh t.attrs
def yR (t:Tr):Prop:=t.s.size≤maxLen∧∀ x∈t.attrs,x.1.size≤maxLen∧x.2.size≤maxLen
theorem qB (S:Nat→Prop)(va:Value)(ka:Option Addr)(kc:Nat)(t:Tr)(w:World)(h:qc S w va t.attrs)(hx:yR t) :
 Calls Try.prog 45 #[.agg #[.bool t.text,.string t.s,va,.slice ka t.kids.length kc]] w fun e w'=>e=.returned (.bool (qt t))∧Below w.heap.size w w':=by
 obtain ⟨aa,ac,rfl⟩:=h.shape;cases htx:t.text with
 | false =>
   have HR:Hid (qt t=(zo t.s&&zh t.attrs)):=by show _=_;simp[qt,htx]
   cases hn:zo t.s with
   | false =>
     go_enter Try.func45,Try.ntmps45
     go_wp2_with fail;refine (qN t.s _ hx.1).mono ?_;rintro e w' ⟨rfl,rfl⟩;rw[hn];go_wp2_with fail;go_ret;exact ⟨by rw[HR.out,hn];rfl,Below.alloc1 _ _⟩
   | true =>
     go_enter Try.func45,Try.ntmps45
     go_wp2_with fail;refine (qN t.s _ hx.1).mono ?_;rintro e w' ⟨rfl,rfl⟩;rw[hn];go_wp2_with fail;refine (yJ S _ t.attrs _ (h.later (Below.alloc1 _ _)) hx.2).mono ?_;rintro e w1 ⟨rfl,hb⟩;go_wp2_with fail;go_ret;exact ⟨by rw[HR.out,hn];rfl,(Below.alloc1 _ _).trans (hb.mono (by simp))⟩
 | true =>
   cases he:t.s.toList.isEmpty with
   | true =>
     go_enter Try.func45,Try.ntmps45
     go_wp2_with fail;go_ret;exact ⟨by simp[qt,htx,he],Below.alloc1 _ _⟩
   | false =>
     cases hp:za t.s with
     | false =>
       go_enter Try.func45,Try.ntmps45
       go_wp2_with fail;refine (qF t.s _ hx.1).mono ?_;rintro e w' ⟨rfl,rfl⟩;rw[hp];go_wp2_with fail;go_ret;exact ⟨by simp[qt,htx,hp],Below.alloc1 _ _⟩
     | true =>
       by_cases hal:t.attrs.length=0
       · have hal' : ((t.attrs.length : Int) == 0) = true := by simpa using hal
         by_cases hkl:t.kids.length=0
         · have hkl' : ((t.kids.length : Int) == 0) = true := by simpa using hkl
           have HR:Hid (qt t=true):=by show _=_;simp[qt,htx,he,hp,List.eq_nil_of_length_eq_zero hal,List.eq_nil_of_length_eq_zero hkl]
           clear hal hkl
           go_enter Try.func45,Try.ntmps45
           go_wp2_with fail;refine (qF t.s _ hx.1).mono ?_;rintro e w' ⟨rfl,rfl⟩;rw[hp];go_wp2_with fail;go_ret;exact ⟨by rw[HR.out];rfl,Below.alloc1 _ _⟩
         · have hkl' : ((t.kids.length : Int) == 0) = false := by simpa using hkl
           have HR:Hid (qt t=false):=by show _=_;simp[qt,htx];intro _ _ _ h;exact hkl (by rw[h];rfl)
           clear hal hkl
           go_enter Try.func45,Try.ntmps45
           go_wp2_with fail;refine (qF t.s _ hx.1).mono ?_;rintro e w' ⟨rfl,rfl⟩;rw[hp];go_wp2_with fail;go_ret;exact ⟨by rw[HR.out];rfl,Below.alloc1 _ _⟩
       · have hal' : ((t.attrs.length : Int) == 0) = false := by simpa using hal
         have HR:Hid (qt t=false):=by show _=_;simp[qt,htx];intro _ _ h;exact absurd (by rw[h];rfl) hal
         clear hal
         go_enter Try.func45,Try.ntmps45
         go_wp2_with fail;refine (qF t.s _ hx.1).mono ?_;rintro e w' ⟨rfl,rfl⟩;rw[hp];go_wp2_with fail;go_ret;exact ⟨by rw[HR.out];rfl,Below.alloc1 _ _⟩
end Go.Proofs.Ytfdbipeidmpciaa
