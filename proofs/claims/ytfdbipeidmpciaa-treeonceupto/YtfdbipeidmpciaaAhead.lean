/- tree.textsAhead tells how many texts a list begins with. No condition. -/
import Derived.Test.YtfdbipeidmpciaaBase
import Derived.Test.YtfdbipeidmpciaaChecked
namespace Go.Proofs.Ytfdbipeidmpciaa
open Go.ChangeShapes Go.WideShapes Go.ChangeAt Go.RowKit
set_option maxRecDepth 100000
def ahead:List Tr→Nat
 | []=>0
 | t::r=>if t.text then ahead r+1 else 0
theorem yp (ts:List Tr):ahead ts≤ts.length:=by
 induction ts with
 | nil=>simp[ahead]
 | cons t r ih=>unfold ahead;split<;>simp<;>omega
theorem xw {k:IntKind}{a b:Int}(h:a=b):Ending.returned (.int k a)=.returned (.int k b):=by rw[h]
theorem yS (S:Nat→Prop)(n:Nat)(v:Value)(ts:List Tr)(w:World)(h:qa S w (n+1) v ts) :
 Calls Try.prog 40 #[v] w fun e w'=>e=.returned (.int .i64 (ahead ts))∧w'=w:=by
 obtain ⟨a,cap,rfl,h2,h3,h4⟩:=h;unfold maxLen at h3
 go_enter Try.func40,Try.ntmps40
 go_wp2
 go_loop [6] (fun i=>∃ k:Nat,k≤ts.length∧i=.int .i64 k∧ahead ts=k+ahead (ts.drop k)) (fun i=>ts.length-(intOf i).toNat)
 case atStart => exact ⟨0,Nat.zero_le _,rfl,by simp⟩
 case round =>
  obtain ⟨k,hk,rfl,hrest⟩:=hrel;have HR:Hid (ahead ts=k+ahead (ts.drop k)):=hrest;clear hrest
  by_cases hlt:k<ts.length
  · have hne : ts ≠ [] := by intro e;subst e;simp at hlt
    obtain ⟨b,o,rfl,hs,hc⟩:=h4 hne;obtain ⟨t,ht⟩:∃ t,ts[k]?=some t:=⟨ts[k],by simp[hlt]⟩
    have HT:Hid (ts[k]?=some t):=ht;obtain ⟨va,vk,c0,c1,c2,c3,_,_⟩:=hc k t ht
    have hd:ts.drop k=t::ts.drop (k+1):=by
     rw[List.drop_eq_getElem_cons hlt];congr 1;simpa[hlt] using ht
    have HD:Hid (ahead (ts.drop k)=if t.text then ahead (ts.drop (k+1))+1 else 0):=by rw[hd];rfl
    clear hd ht hc h4 c1 c2 c3;go_wp2
    · go_ret;exact ⟨xw (by have:=HR.out;have:=HD.out;simp_all),rfl⟩
    · refine ⟨⟨k + 1, by omega, by go_num, ?_⟩, by simp[intOf];omega⟩
      have h1:=HR.out;have h2:=HD.out;rw[if_pos (by simpa using ‹(!t.text)=false›)]at h2
      omega
  · go_wp2;go_ret;exact ⟨xw (by have:=HR.out;have:=yp ts;rw[List.drop_of_length_le (by omega)]at *;simp[ahead]at *;omega),rfl⟩
end Go.Proofs.Ytfdbipeidmpciaa
