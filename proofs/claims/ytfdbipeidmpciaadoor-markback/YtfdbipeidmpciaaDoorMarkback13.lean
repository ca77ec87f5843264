/- Bundled: ReadM ReadT. What each says stands ahead of it. -/
import Derived.Test.YtfdbipeidmpciaaDoorMarkback12
import Derived.Test.YtfdbipeidmpciaaDoorFive01
namespace Go.Proofs.YtfdbipeidmpciaaDoor
set_option maxRecDepth 100000
structure Rs where
 rest:List UInt8
 wrong:Bool
def Rs.ahead (r:Rs)(p:List UInt8):Bool:=!r.wrong&&p.isPrefixOf r.rest
def Rs.take (r:Rs)(p:List UInt8):Rs:=if r.ahead p then ⟨r.rest.drop p.length,r.wrong⟩ else r
def Rs.must (r:Rs)(p:List UInt8):Rs:=if r.ahead p then ⟨r.rest.drop p.length,r.wrong⟩ else ⟨r.rest,true⟩
def zg (c:UInt8):Bool:=([32,10]:List UInt8).contains c
def Rs.skip (r:Rs):Rs:=⟨r.rest.dropWhile zg,r.wrong⟩
def Rs.nameOf (r:Rs):List UInt8:=r.rest.takeWhile ql
def Rs.name (r:Rs):Rs:=⟨r.rest.dropWhile ql,r.wrong⟩
def marksL:List (List UInt8 × UInt8):=[([38,108,116,59],60),([38,103,116,59],62),([38,97,109,112,59],38),([38,113,117,111,116,59],34)]
def Rs.signFrom (r:Rs):List (List UInt8 × UInt8)→UInt8 × Rs
 | [] => match r.rest with
   | []=>(0,r)
   | c::l=>if c=38 then (c,⟨r.rest,true⟩) else (c,⟨l,r.wrong⟩)
 | m::ms=>if r.ahead m.1 then (m.2,⟨r.rest.drop m.1.length,r.wrong⟩) else r.signFrom ms
def Rs.sign (r:Rs):UInt8 × Rs:=r.signFrom marksL
def Rs.goesOn (r:Rs)(ends:List UInt8):Bool:=!r.wrong&&(match r.rest with
 | []=>false
 | c::_=>decide (Lib.indexByte ends c<0))
def Rs.meant (ends:List UInt8):Nat→Rs→List UInt8 × Rs
 | 0,r=>([],r)
 | f+1,r=>if r.goesOn ends then (r.sign.1::(Rs.meant ends f r.sign.2).1,(Rs.meant ends f r.sign.2).2) else ([],r)
theorem Qp (r:Rs)(ms:List (List UInt8 × UInt8))(hm:∀ m∈ms,0<m.1.length)(hne:r.rest≠[]):(r.signFrom ms).2.rest.length<r.rest.length∨(r.signFrom ms).2.wrong=true:=by
 induction ms with
 | nil =>
   cases hr:r.rest with
   | nil=>exact absurd hr hne
   | cons c l =>
     by_cases hc:c=38
     · right;simp[Rs.signFrom,hr,hc]
     · left;simp[Rs.signFrom,hr,hc]
 | cons m ms ih =>
   by_cases h:r.ahead m.1=true
   · left
     have h0:=hm m List.mem_cons_self;have h1:0<r.rest.length:=List.length_pos_iff.2 hne;simp only[Rs.signFrom,h,if_true,List.length_drop];omega
   · simp only[Rs.signFrom, h];exact ih (fun x hx=>hm x (List.mem_cons_of_mem _ hx))
theorem j5 (r:Rs)(hne:r.rest≠[]):r.sign.2.rest.length<r.rest.length∨r.sign.2.wrong=true :=
 Qp r marksL (by decide) hne
theorem yv {r:Rs}{ends:List UInt8}(h:r.wrong=true):r.goesOn ends=false:=by simp[Rs.goesOn,h]
theorem yS {r:Rs}{ends:List UInt8}(h:r.goesOn ends=true):r.wrong=false∧r.rest≠[]:=by
 unfold Rs.goesOn at h
 cases hw:r.wrong with
 | true=>simp[hw]at h
 | false =>
   cases hr:r.rest with
   | nil=>simp[hw,hr]at h
   | cons c l=>simp
theorem YA {ends:List UInt8}:∀ (f:Nat) (r:Rs),r.rest.length<f∨r.wrong=true→Rs.meant ends (f+1) r=Rs.meant ends f r:=by
 intro f
 induction f with
 | zero =>
   intro r h
   rcases h with h|h
   · omega
   · simp[Rs.meant,yv h]
 | succ f ih =>
   intro r h
   by_cases hg:r.goesOn ends=true
   · obtain ⟨h1, h2⟩ := yS hg
     have h3:r.sign.2.rest.length<f∨r.sign.2.wrong=true:=by
      rcases j5 r h2 with h4|h4
      · rcases h with h | h
        · left;omega
        · rw[h1]at h;cases h
      · exact Or.inr h4
     rw[Rs.meant,if_pos hg,ih r.sign.2 h3]
     conv=>rhs;rw[Rs.meant,if_pos hg]
   · rw[Rs.meant, if_neg hg]
     conv=>rhs;rw[Rs.meant,if_neg hg]
theorem YB {ends:List UInt8}(f k:Nat)(r:Rs)(h:r.rest.length<f∨r.wrong=true):Rs.meant ends (f+k) r=Rs.meant ends f r:=by
 induction k with
 | zero=>rfl
 | succ k ih =>
   rw[show f+(k+1)=f+k+1 from rfl,YA (f+k) r (by rcases h with h|h;exact Or.inl (by omega);exact Or.inr h),ih]
def Rs.text (r:Rs)(ends:List UInt8):List UInt8 × Rs:=Rs.meant ends (r.rest.length+1) r
theorem Jf {r:Rs}{ends:List UInt8}(h:r.goesOn ends=false):r.text ends=([],r):=by simp[Rs.text,Rs.meant,h]
theorem Zm {r:Rs}{ends:List UInt8}(h:r.goesOn ends=true):r.text ends=(r.sign.1::(r.sign.2.text ends).1,(r.sign.2.text ends).2):=by
 obtain ⟨_,h2⟩:=yS h;unfold Rs.text;rw[Rs.meant,if_pos h]
 have e:Rs.meant ends r.rest.length r.sign.2=Rs.meant ends (r.sign.2.rest.length+1) r.sign.2:=by
  by_cases hw:r.sign.2.wrong=true
  · have h3:∀ f,Rs.meant ends f r.sign.2=([],r.sign.2):=by
     intro f;cases f with
     | zero=>rfl
     | succ f=>simp[Rs.meant,yv hw]
    rw[h3,h3]
  · rcases j5 r h2 with h4 | h4
    · obtain ⟨k, hk⟩ := Nat.exists_eq_add_of_le (show r.sign.2.rest.length + 1 ≤ r.rest.length by omega)
      rw[hk];exact YB _ k _ (Or.inl (by omega))
    · exact absurd h4 hw
 rw[e]
def Rs.left (r:Rs):Nat:=if r.wrong then 0 else r.rest.length+1
def qJ {α:Type}(more:Rs→Bool)(step:Rs→α × Rs):Nat→Rs→List α × Rs
 | 0,r=>([],r)
 | f+1,r=>if more r then ((step r).1::(qJ more step f (step r).2).1,(qJ more step f (step r).2).2) else ([],r)
theorem Ya {α:Type}{more:Rs→Bool}{step:Rs→α × Rs}(hless:∀ r,more r=true→(step r).2.left<r.left) :
 ∀ (f:Nat) (r:Rs),r.left≤f→qJ more step (f+1) r=qJ more step f r:=by
 intro f
 induction f with
 | zero =>
   intro r h
   have:more r=false:=by
    cases hm:more r with
    | false=>rfl
    | true=>have:=hless r hm;omega
   simp[qJ,this]
 | succ f ih =>
   intro r h
   by_cases hm:more r=true
   · have h1 := hless r hm;rw[qJ,if_pos hm,ih (step r).2 (by omega)]
     conv=>rhs;rw[qJ,if_pos hm]
   · rw[qJ, if_neg hm]
     conv=>rhs;rw[qJ,if_neg hm]
theorem Yb {α:Type}{more:Rs→Bool}{step:Rs→α × Rs}(hless:∀ r,more r=true→(step r).2.left<r.left)
 (f k:Nat) (r:Rs) (h:r.left≤f):qJ more step (f+k) r=qJ more step f r:=by
 induction k with
 | zero=>rfl
 | succ k ih=>rw[show f+(k+1)=f+k+1 from rfl,Ya hless (f+k) r (by omega),ih]
def jd {α:Type}(more:Rs→Bool)(step:Rs→α × Rs)(r:Rs):List α × Rs:=qJ more step (r.left+1) r
theorem QP {α:Type}{more:Rs→Bool}{step:Rs→α × Rs}{r:Rs}(h:more r=false):jd more step r=([],r):=by
 simp[jd,qJ,h]
theorem QQ {α:Type}{more:Rs→Bool}{step:Rs→α × Rs}(hless:∀ r,more r=true→(step r).2.left<r.left){r:Rs}(h:more r=true) :
 jd more step r=((step r).1::(jd more step (step r).2).1,(jd more step (step r).2).2):=by
 have h1:=hless r h;unfold jd;rw[qJ,if_pos h]
 have e:qJ more step r.left (step r).2=qJ more step ((step r).2.left+1) (step r).2:=by
  obtain ⟨k,hk⟩:=Nat.exists_eq_add_of_le (show (step r).2.left+1≤r.left by omega)
  rw[hk];exact Yb hless _ k _ (by omega)
 rw[e]
def Rs.le (r' r:Rs):Prop:=r'.rest.length≤r.rest.length∧(r.wrong=true→r'.wrong=true)
theorem Rs.le.refl (r:Rs):r.le r:=⟨Nat.le_refl _,id⟩
theorem Rs.le.trans {a b c:Rs}(h:a.le b)(k:b.le c):a.le c:=⟨Nat.le_trans h.1 k.1,fun e=>h.2 (k.2 e)⟩
theorem Rs.le.left {a b:Rs}(h:a.le b):a.left≤b.left:=by
 unfold Rs.left;cases ha:a.wrong with
 | true=>simp
 | false =>
   cases hb:b.wrong with
   | true=>rw[h.2 hb]at ha;cases ha
   | false=>have:=h.1;simp;omega
theorem Q6 {a b:Rs}(h:a.rest.length<b.rest.length)(hb:b.wrong=false):a.left<b.left:=by
 unfold Rs.left;rw[hb];cases a.wrong<;>simp<;>omega
theorem yu (p:UInt8→Bool)(l:List UInt8):(l.dropWhile p).length≤l.length:=by
 induction l with
 | nil=>simp
 | cons c r ih=>rw[List.dropWhile_cons];split<;>simp<;>omega
theorem X6 (r:Rs)(p:List UInt8):(r.take p).le r:=by
 unfold Rs.take
 split
 · exact ⟨by simp,id⟩
 · exact Rs.le.refl r
theorem qR (r:Rs)(p:List UInt8):(r.must p).le r:=by
 unfold Rs.must
 split
 · exact ⟨by simp,id⟩
 · exact ⟨Nat.le_refl _,fun _=>rfl⟩
theorem q7 (r:Rs):r.skip.le r:=⟨yu _ _,id⟩
theorem zH (r:Rs):r.name.le r:=⟨yu _ _,id⟩
theorem Z3 (r:Rs):∀ ms,(r.signFrom ms).2.le r:=by
 intro ms
 induction ms with
 | nil =>
   unfold Rs.signFrom
   split
   · exact Rs.le.refl r
   · rename_i c l hl
     split
     · exact ⟨Nat.le_refl _,fun _=>rfl⟩
     · exact ⟨by rw[hl];simp,id⟩
 | cons m ms ih =>
   unfold Rs.signFrom
   split
   · exact ⟨by simp,id⟩
   · exact ih
theorem Jd (r:Rs):r.sign.2.le r:=Z3 r _
theorem Xn (ends:List UInt8):∀ (f:Nat) (r:Rs),(Rs.meant ends f r).2.le r:=by
 intro f
 induction f with
 | zero=>intro r;exact Rs.le.refl r
 | succ f ih =>
   intro r;unfold Rs.meant
   split
   · exact (ih _).trans (Jd r)
   · exact Rs.le.refl r
theorem xz (r:Rs)(ends:List UInt8):(r.text ends).2.le r:=Xn _ _ _
def valueEnds:List UInt8:=[60,62,34]
def textEnds:List UInt8:=[60,62]
def Rs.attrAhead (r:Rs):Bool:=!r.wrong&&decide ((r.rest.dropWhile zg).length<r.rest.length)&&(match r.rest.dropWhile zg with
 | []=>false
 | c::_=>ql c)
def Rs.attr (r:Rs):(List UInt8 × List UInt8) × Rs :=
 ((r.skip.nameOf,((r.skip.name.must [61,34]).text valueEnds).1),((r.skip.name.must [61,34]).text valueEnds).2.must [34])
theorem xx (r:Rs):r.attr.2.le r.skip:=(qR _ _).trans ((xz _ _).trans ((qR _ _).trans (zH _)))
theorem jY (r:Rs)(h:r.attrAhead=true):r.attr.2.left<r.left:=by
 unfold Rs.attrAhead at h
 simp only[Bool.and_eq_true,decide_eq_true_eq,Bool.not_eq_true']at h
 exact Nat.lt_of_le_of_lt (xx r).left (Q6 (show r.skip.rest.length<r.rest.length from h.1.2) h.1.1)
def Rs.attrs (r:Rs):List (List UInt8 × List UInt8) × Rs:=jd Rs.attrAhead Rs.attr r
theorem Zt {r:Rs}(h:r.attrAhead=false):r.attrs=([],r):=QP h
theorem Zu {r:Rs}(h:r.attrAhead=true):r.attrs=(r.attr.1::r.attr.2.attrs.1,r.attr.2.attrs.2):=QQ jY h
theorem QO {α:Type}{more:Rs→Bool}{step:Rs→α × Rs}(hs:∀ r,more r=true→(step r).2.le r):∀ (f:Nat) (r:Rs),(qJ more step f r).2.le r:=by
 intro f
 induction f with
 | zero=>intro r;exact Rs.le.refl r
 | succ f ih =>
   intro r;unfold qJ
   split
   · rename_i h;exact (ih _).trans (hs r h)
   · exact Rs.le.refl r
theorem xF (r:Rs):r.attrs.2.le r:=QO (fun r _=>(xx r).trans (q7 r)) _ r
def Rs.treeAhead (r:Rs):Bool:=!r.wrong&&decide (r.rest≠[])&&!r.ahead [60,47]&&!r.ahead [62]
end Go.Proofs.YtfdbipeidmpciaaDoor
