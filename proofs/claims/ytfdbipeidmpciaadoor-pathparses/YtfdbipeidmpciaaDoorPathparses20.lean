/- PathParses: for all texts, Parse answers exactly what the document's own way of reading a path answers, errors too. No condition beyond the given row's. -/
import Derived.Test.YtfdbipeidmpciaaDoorPathparses18
import Derived.Test.YtfdbipeidmpciaaDoorBundle10
import Derived.Test.YtfdbipeidmpciaaDoorPathparses19
import Derived.Test.YtfdbipeidmpciaaDoorCards
import Derived.Test.YtfdbipeidmpciaaDoorTie
import Derived.Deep.DeepWitnessRowRef
namespace Go.Proofs.YtfdbipeidmpciaaDoor
open Go.ChangeShapes Go.WideShapes Go.ChangeAt Go.RowKit
set_option maxRecDepth 100000
theorem Kg {W:World}(hL:laidMetH Tryd.prog Rows.pathParsesRow.laid W)(hS:W.ShapedOpen Tryd.prog):QN W:=by
 have h:laidMet Tryd.prog Rows.pathParsesRow.laid W:=hL;exact qbC hS (Lib.laidMet.reads h (by simp[Rows.pathParsesRow])) (Lib.laidMet.reads h (by simp[Rows.pathParsesRow])) (Lib.laidMet.reads h (by simp[Rows.pathParsesRow]))
theorem QT (H:Type)(enc:TypeId × Value→H)(W:World)(base:Nat)(args:Array Value)(ds gs:List (DataW H))(before:List MemPlace)
 (hval:∀ (j:Nat) t v,Tryd.f9.params[j]?=some t→args[j]?=some v→Value.okWide Tryd.prog W .any base t v)
 (hW:DataW.Whole enc Tryd.prog Tryd.f9.params.toList Rows.pathParsesSpec.vars false W args.toList ds gs before)
 (hz:(DataW.weightsEach Tryd.prog (Tryd.f9.params.toList++Rows.pathParsesSpec.plain.varTypes Tryd.prog) (ds++gs)).all (·≤reachBytes)=true) (hE:QN W) :
 Calls Tryd.prog 9 args W fun e W'=>∃ v,e=.returned v∧Rows.pathParsesSpec.post enc Tryd.prog Tryd.f9 false true false false W args v W':=by
 have hW':=hW;obtain ⟨p,q,hA0,hV,rfl,hfz,hnd⟩:=hW;have hA:DataW.TrodAll enc Tryd.prog W 0 (fun _=>true) true Tryd.f9.params.toList args.toList ds p:=hA0
 rw[Tryd.params9]at hA hval hz
 obtain ⟨v0,vs0,d0,ds0,p0,q0,hargs0,rfl,rfl,h0,r0⟩:=trodAll_cons hA;obtain ⟨rfl,rfl,rfl⟩:=trodAll_nil r0;obtain rfl:args=#[v0]:=by cases args;simp_all
 obtain ⟨rfl,rfl⟩:=trodVars_none hV;obtain ⟨x,rfl⟩:=okWide_string Tryd.underlying9 (hval 0 9 v0 rfl rfl);have h0k:=h0;obtain ⟨f0,hf0⟩:=h0;clear hA0 hA r0 hargs0 hV hz;simp only[List.append_nil]at hW'
 have hlt:∀ x∈p0,x.block<W.heap.size:=fun x hx=>by simpa using hW'.lt x (by simpa using hx)
 obtain ⟨y,hy,_,hsz⟩:=DataW.trod_string Tryd.underlying9 hf0;obtain rfl:x=y:=by simpa[Value.cells] using hy
 refine (Zt x W hsz hE).mono ?_;rintro e W' ⟨rfl,hb⟩;refine ⟨_,rfl,_,_,_,[],p0++[],[],hW',?_,?_,rfl,hb.frame _,fun h=>by cases h⟩
 · exact trodAll_mk1 (shut_bool Tryd.underlying4 true)
 · exact trodAll_cons_mk (Below.trod progLaid (by kernel_rfl) (of_decide_eq_true (by kernel_rfl)) h0k hb (fun x hx=>hlt x hx)) trodAll_mk0
noncomputable def j6 (os:Os):World:=World.laidAll Tryd.prog os Rows.pathParsesRow.laid
theorem Kh (os:Os):laidMet Tryd.prog Rows.pathParsesRow.laid ((j6 os).forCall (fun _ _=>0) ⟨#[],#[.string ⟨#[]⟩],[]⟩).memory :=
 laidMet_laidAll _ (by kernel_rfl) (by kernel_rfl)
theorem Y9 (os:Os){H:Type}(enc:TypeId × Value→H):∃ places,DataW.whole enc Tryd.prog ((j6 os).forCall (fun _ _=>0) ⟨#[],#[.string ⟨#[]⟩],[]⟩).memory Tryd.f9.params.toList Rows.pathParsesSpec.vars false #[Value.string ⟨#[]⟩].toList 8 =
 some ([.lit (.string [])],[],places) :=
 ⟨[],by kernel_rfl⟩
theorem ZT (os:Os)(started:os.Started)(H:Type)(enc:TypeId × Value→H)(F:Stop.Interp) :
 ReturnsInHanded {} Tryd.checked os 9 .any ((OpenSpec.ofChange Rows.pathParsesSpec).preRow enc Tryd.prog Tryd.f9 Rows.pathParsesRow.domain false Rows.pathParsesRow.laid) (((OpenSpec.ofChange Rows.pathParsesSpec).at F).post enc Tryd.prog Tryd.f9 false true false false):=by
 obtain ⟨places,hx⟩:=Y9 os enc
 refine returnsInHanded_of_row (C:=Tryd.checked) (s:=OpenSpec.ofChange Rows.pathParsesSpec) progOwn started (by kernel_rfl) Tryd.func9
  (witness_row_atRef (enc:=enc) (C:=Tryd.checked) false (j6 os) #[.string ⟨#[]⟩] rfl (by kernel_rfl) (by kernel_rfl) (by kernel_rfl)
   (OpenSpec.preRow_of_cond 8 hx (by kernel_rfl) (fun k hk=>by cases hk) (by kernel_rfl) (Kh os))) ?_
 intro W base args ds gs before hval hW _ _ hz hL hS _;exact QT H enc W base args ds gs before hval hW hz (Kg hL hS)
theorem parses_said:Rows.PathParsesSaid :=
 OpenClaim.holds_of_cond 9 Tryd.f9 rfl rfl rfl rfl rfl rfl rfl ⟨rfl,rfl,rfl,rfl,rfl⟩ rfl rfl rfl rfl rfl (by kernel_rfl) Tryd.func9 (by kernel_rfl)
  (of_decide_eq_true (by kernel_rfl)) (by unfold Func.isWrapper;first|(rw[if_pos (by decide +kernel)];kernel_rfl)|(rw[if_neg (by decide +kernel)];exact ⟨rfl,rfl⟩))
  (fun os started H enc _ F=>by rw[OpenClaim.pre_eq_preRow];exact ZT os started H enc F)
theorem Y8 (f : FuncId) (fn : Func) (hf : Tryd.pinned.checked.prog.funcNamed "topiary/topiarylaw.PathParses" = some f) (hfn : Tryd.pinned.checked.prog.funcs[f]? = some fn) :
 true=Tryd.pinned.checked.prog.looks []∧∀ (j:Nat) t,fn.params[j]?=some t→Tryd.pinned.checked.prog.wantsStandIn t=false:=by
 obtain rfl : f = 9 := Option.some.inj ((show Tryd.prog.funcNamed "topiary/topiarylaw.PathParses" = some 9 by kernel_rfl).symm.trans hf) |>.symm
 obtain rfl:fn=Tryd.f9:=(Option.some.inj (Tryd.func9.symm.trans hfn)).symm;refine ⟨by kernel_rfl,fun j t ht=>?_⟩
 rw[Tryd.params9]at ht
 have hm:t=9:=by simpa using Array.mem_of_getElem? ht
 subst hm;exact (show Tryd.prog.wantsStandIn 9=false by kernel_rfl)
theorem parses_holds:Rows.PathParsesCardSaid :=
 Claim7.holds_tied_plain_at .later [] _ _ _ _ parses_said (fun _ h=>by cases h) (by kernel_rfl) (fun _ h=>by cases h) pathParses_row_tie rfl ⟨rfl,rfl⟩ (by kernel_rfl) rfl Y8 (by kernel_rfl)
end Go.Proofs.YtfdbipeidmpciaaDoor
