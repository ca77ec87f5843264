/- Bundled: ReadM ReadT. What each says stands ahead of it. -/
import Derived.Test.YtfplhcicbbhljaaGreatDoorBundle01
import Derived.Test.YtfplhcicbbhljaaGreatDoorBundle02
namespace Go.Proofs.YtfplhcicbbhljaaGreatDoor
set_option maxRecDepth 100000
structure Rs where
 rest:List UInt8
 wrong:Bool
def Rs.ahead (r:Rs)(p:List UInt8):Bool:=!r.wrong&&p.isPrefixOf r.rest
def Rs.take (r:Rs)(p:List UInt8):Rs:=if r.ahead p then ⟨r.rest.drop p.length,r.wrong⟩ else r
def Rs.must (r:Rs)(p:List UInt8):Rs:=if r.ahead p then ⟨r.rest.drop p.length,r.wrong⟩ else ⟨r.rest,true⟩
def qo (c:UInt8):Bool:=([32,10]:List UInt8).contains c
def Rs.skip (r:Rs):Rs:=⟨r.rest.dropWhile qo,r.wrong⟩
def Rs.nameOf (r:Rs):List UInt8:=r.rest.takeWhile qg
def Rs.name (r:Rs):Rs:=⟨r.rest.dropWhile qg,r.wrong⟩
def marksL:List (List UInt8 × UInt8):=[([38,108,116,59],60),([38,103,116,59],62),([38,97,109,112,59],38),([38,113,117,111,116,59],34)]
def Rs.signFrom (r:Rs):List (List UInt8 × UInt8)→UInt8 × Rs
 | [] => match r.rest with
   | []=>(0,r)
   | c::l=>if c=38 then (c,⟨r.rest,true⟩) else (c,⟨l,r.wrong⟩)
 | m::ms=>if r.ahead m.1 then (m.2,⟨r.rest.drop m.1.length,r.wrong⟩) else r.signFrom ms
def Rs.sign (r:Rs):UInt8 × Rs:=r.signFrom marksL
def Rs.goesOn (r:Rs)(ends:List UInt8):Bool:=!r.wrong&&(match r.rest with
 | []=>false
 | c::_=>decide (Lib.indexByte ends c<0))
def Rs.meant (ends:List UInt8):Nat→Rs→List UInt8 × Rs
 | 0,r=>([],r)
 | f+1,r=>if r.goesOn ends then (r.sign.1::(Rs.meant ends f r.sign.2).1,(Rs.meant ends f r.sign.2).2) else ([],r)
theorem JZ (r:Rs)(ms:List (List UInt8 × UInt8))(hm:∀ m∈ms,0<m.1.length)(hne:r.rest≠[]):(r.signFrom ms).2.rest.length<r.rest.length∨(r.signFrom ms).2.wrong=true:=by
 induction ms with
 | nil =>
   cases hr:r.rest with
   | nil=>exact absurd hr hne
   | cons c l =>
     by_cases hc:c=38
     · right;simp[Rs.signFrom,hr,hc]
     · left;simp[Rs.signFrom,hr,hc]
 | cons m ms ih =>
   by_cases h:r.ahead m.1=true
   · left
     have h0:=hm m List.mem_cons_self;have h1:0<r.rest.length:=List.length_pos_iff.2 hne;simp only[Rs.signFrom,h,if_true,List.length_drop];omega
   · simp only[Rs.signFrom, h];exact ih (fun x hx=>hm x (List.mem_cons_of_mem _ hx))
theorem Z7 (r:Rs)(hne:r.rest≠[]):r.sign.2.rest.length<r.rest.length∨r.sign.2.wrong=true :=
 JZ r marksL (by decide) hne
theorem y5 {r:Rs}{ends:List UInt8}(h:r.wrong=true):r.goesOn ends=false:=by simp[Rs.goesOn,h]
theorem QB {r:Rs}{ends:List UInt8}(h:r.goesOn ends=true):r.wrong=false∧r.rest≠[]:=by
 unfold Rs.goesOn at h
 cases hw:r.wrong with
 | true=>simp[hw]at h
 | false =>
   cases hr:r.rest with
   | nil=>simp[hw,hr]at h
   | cons c l=>simp
theorem qaB {ends:List UInt8}:∀ (f:Nat)(r:Rs),r.rest.length<f∨r.wrong=true→Rs.meant ends (f+1) r=Rs.meant ends f r:=by
 intro f
 induction f with
 | zero =>
   intro r h
   rcases h with h|h
   · omega
   · simp[Rs.meant,y5 h]
 | succ f ih =>
   intro r h
   by_cases hg:r.goesOn ends=true
   · obtain ⟨h1, h2⟩ := QB hg
     have h3:r.sign.2.rest.length<f∨r.sign.2.wrong=true:=by
      rcases Z7 r h2 with h4|h4
      · rcases h with h | h
        · left;omega
        · rw[h1]at h;cases h
      · exact Or.inr h4
     rw[Rs.meant,if_pos hg,ih r.sign.2 h3]
     conv=>rhs;rw[Rs.meant,if_pos hg]
   · rw[Rs.meant, if_neg hg]
     conv=>rhs;rw[Rs.meant,if_neg hg]
theorem qaC {ends:List UInt8}(f k:Nat)(r:Rs)(h:r.rest.length<f∨r.wrong=true):Rs.meant ends (f+k) r=Rs.meant ends f r:=by
 induction k with
 | zero=>rfl
 | succ k ih =>
   rw[show f+(k+1)=f+k+1 from rfl,qaB (f+k) r (by rcases h with h|h;exact Or.inl (by omega);exact Or.inr h),ih]
def Rs.text (r:Rs)(ends:List UInt8):List UInt8 × Rs:=Rs.meant ends (r.rest.length+1) r
theorem jm {r:Rs}{ends:List UInt8}(h:r.goesOn ends=false):r.text ends=([],r):=by simp[Rs.text,Rs.meant,h]
theorem jE {r:Rs}{ends:List UInt8}(h:r.goesOn ends=true):r.text ends=(r.sign.1::(r.sign.2.text ends).1,(r.sign.2.text ends).2):=by
 obtain ⟨_,h2⟩:=QB h;unfold Rs.text;rw[Rs.meant,if_pos h]
 have e:Rs.meant ends r.rest.length r.sign.2=Rs.meant ends (r.sign.2.rest.length+1) r.sign.2:=by
  by_cases hw:r.sign.2.wrong=true
  · have h3:∀ f,Rs.meant ends f r.sign.2=([],r.sign.2):=by
     intro f;cases f with
     | zero=>rfl
     | succ f=>simp[Rs.meant,y5 hw]
    rw[h3,h3]
  · rcases Z7 r h2 with h4 | h4
    · obtain ⟨k, hk⟩ := Nat.exists_eq_add_of_le (show r.sign.2.rest.length + 1 ≤ r.rest.length by omega)
      rw[hk];exact qaC _ k _ (Or.inl (by omega))
    · exact absurd h4 hw
 rw[e]
def Rs.left (r:Rs):Nat:=if r.wrong then 0 else r.rest.length+1
def zF {α:Type}(more:Rs→Bool)(step:Rs→α × Rs):Nat→Rs→List α × Rs
 | 0,r=>([],r)
 | f+1,r=>if more r then ((step r).1::(zF more step f (step r).2).1,(zF more step f (step r).2).2) else ([],r)
theorem VW {α:Type}{more:Rs→Bool}{step:Rs→α × Rs}(hless:∀ r,more r=true→(step r).2.left<r.left) :
 ∀ (f:Nat) (r:Rs),r.left≤f→zF more step (f+1) r=zF more step f r:=by
 intro f
 induction f with
 | zero =>
   intro r h
   have:more r=false:=by
    cases hm:more r with
    | false=>rfl
    | true=>have:=hless r hm;omega
   simp[zF,this]
 | succ f ih =>
   intro r h
   by_cases hm:more r=true
   · have h1 := hless r hm;rw[zF,if_pos hm,ih (step r).2 (by omega)]
     conv=>rhs;rw[zF,if_pos hm]
   · rw[zF, if_neg hm]
     conv=>rhs;rw[zF,if_neg hm]
theorem VX {α:Type}{more:Rs→Bool}{step:Rs→α × Rs}(hless:∀ r,more r=true→(step r).2.left<r.left)
 (f k:Nat) (r:Rs) (h:r.left≤f):zF more step (f+k) r=zF more step f r:=by
 induction k with
 | zero=>rfl
 | succ k ih=>rw[show f+(k+1)=f+k+1 from rfl,VW hless (f+k) r (by omega),ih]
def QO {α:Type}(more:Rs→Bool)(step:Rs→α × Rs)(r:Rs):List α × Rs:=zF more step (r.left+1) r
theorem XD {α:Type}{more:Rs→Bool}{step:Rs→α × Rs}{r:Rs}(h:more r=false):QO more step r=([],r):=by
 simp[QO,zF,h]
theorem XE {α:Type}{more:Rs→Bool}{step:Rs→α × Rs}(hless:∀ r,more r=true→(step r).2.left<r.left){r:Rs}(h:more r=true) :
 QO more step r=((step r).1::(QO more step (step r).2).1,(QO more step (step r).2).2):=by
 have h1:=hless r h;unfold QO;rw[zF,if_pos h]
 have e:zF more step r.left (step r).2=zF more step ((step r).2.left+1) (step r).2:=by
  obtain ⟨k,hk⟩:=Nat.exists_eq_add_of_le (show (step r).2.left+1≤r.left by omega)
  rw[hk];exact VX hless _ k _ (by omega)
 rw[e]
def Rs.le (r' r:Rs):Prop:=r'.rest.length≤r.rest.length∧(r.wrong=true→r'.wrong=true)
theorem Rs.le.refl (r:Rs):r.le r:=⟨Nat.le_refl _,id⟩
theorem Rs.le.trans {a b c:Rs}(h:a.le b)(k:b.le c):a.le c:=⟨Nat.le_trans h.1 k.1,fun e=>h.2 (k.2 e)⟩
theorem Rs.le.left {a b:Rs}(h:a.le b):a.left≤b.left:=by
 unfold Rs.left;cases ha:a.wrong with
 | true=>simp
 | false =>
   cases hb:b.wrong with
   | true=>rw[h.2 hb]at ha;cases ha
   | false=>have:=h.1;simp;omega
theorem XX {a b:Rs}(h:a.rest.length<b.rest.length)(hb:b.wrong=false):a.left<b.left:=by
 unfold Rs.left;rw[hb];cases a.wrong<;>simp<;>omega
theorem Qb (p:UInt8→Bool)(l:List UInt8):(l.dropWhile p).length≤l.length:=by
 induction l with
 | nil=>simp
 | cons c r ih=>rw[List.dropWhile_cons];split<;>simp<;>omega
theorem qfh (r:Rs)(p:List UInt8):(r.take p).le r:=by
 unfold Rs.take
 split
 · exact ⟨by simp,id⟩
 · exact Rs.le.refl r
theorem zT (r:Rs)(p:List UInt8):(r.must p).le r:=by
 unfold Rs.must
 split
 · exact ⟨by simp,id⟩
 · exact ⟨Nat.le_refl _,fun _=>rfl⟩
theorem yu (r:Rs):r.skip.le r:=⟨Qb _ _,id⟩
theorem jT (r:Rs):r.name.le r:=⟨Qb _ _,id⟩
theorem VL (r:Rs):∀ ms,(r.signFrom ms).2.le r:=by
 intro ms
 induction ms with
 | nil =>
   unfold Rs.signFrom
   split
   · exact Rs.le.refl r
   · rename_i c l hl
     split
     · exact ⟨Nat.le_refl _,fun _=>rfl⟩
     · exact ⟨by rw[hl];simp,id⟩
 | cons m ms ih =>
   unfold Rs.signFrom
   split
   · exact ⟨by simp,id⟩
   · exact ih
theorem qbH (r:Rs):r.sign.2.le r:=VL r _
theorem qdI (ends:List UInt8):∀ (f:Nat)(r:Rs),(Rs.meant ends f r).2.le r:=by
 intro f
 induction f with
 | zero=>intro r;exact Rs.le.refl r
 | succ f ih =>
   intro r;unfold Rs.meant
   split
   · exact (ih _).trans (qbH r)
   · exact Rs.le.refl r
theorem YA (r:Rs)(ends:List UInt8):(r.text ends).2.le r:=qdI _ _ _
def valueEnds:List UInt8:=[60,62,34]
def textEnds:List UInt8:=[60,62]
def Rs.attrAhead (r:Rs):Bool:=!r.wrong&&decide ((r.rest.dropWhile qo).length<r.rest.length)&&(match r.rest.dropWhile qo with
 | []=>false
 | c::_=>qg c)
def Rs.attr (r:Rs):(List UInt8 × List UInt8) × Rs :=
 ((r.skip.nameOf,((r.skip.name.must [61,34]).text valueEnds).1),((r.skip.name.must [61,34]).text valueEnds).2.must [34])
theorem Yt (r:Rs):r.attr.2.le r.skip:=(zT _ _).trans ((YA _ _).trans ((zT _ _).trans (jT _)))
theorem ZU (r:Rs)(h:r.attrAhead=true):r.attr.2.left<r.left:=by
 unfold Rs.attrAhead at h
 simp only[Bool.and_eq_true,decide_eq_true_eq,Bool.not_eq_true']at h
 exact Nat.lt_of_le_of_lt (Yt r).left (XX (show r.skip.rest.length<r.rest.length from h.1.2) h.1.1)
def Rs.attrs (r:Rs):List (List UInt8 × List UInt8) × Rs:=QO Rs.attrAhead Rs.attr r
theorem Zq {r:Rs}(h:r.attrAhead=false):r.attrs=([],r):=XD h
theorem YE {r:Rs}(h:r.attrAhead=true):r.attrs=(r.attr.1::r.attr.2.attrs.1,r.attr.2.attrs.2):=XE ZU h
theorem XC {α:Type}{more:Rs→Bool}{step:Rs→α × Rs}(hs:∀ r,more r=true→(step r).2.le r):∀ (f:Nat)(r:Rs),(zF more step f r).2.le r:=by
 intro f
 induction f with
 | zero=>intro r;exact Rs.le.refl r
 | succ f ih =>
   intro r;unfold zF
   split
   · rename_i h;exact (ih _).trans (hs r h)
   · exact Rs.le.refl r
theorem YD (r:Rs):r.attrs.2.le r:=XC (fun r _=>(Yt r).trans (yu r)) _ r
def Rs.treeAhead (r:Rs):Bool:=!r.wrong&&decide (r.rest≠[])&&!r.ahead [60,47]&&!r.ahead [62]
end Go.Proofs.YtfplhcicbbhljaaGreatDoor
