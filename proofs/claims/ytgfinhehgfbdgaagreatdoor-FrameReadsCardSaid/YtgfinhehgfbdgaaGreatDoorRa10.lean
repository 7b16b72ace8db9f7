import Derived.Test.YtgfinhehgfbdgaaGreatDoorRa06
import Derived.Test.YtgfinhehgfbdgaaGreatDoorRa08
namespace Go.Proofs.YtgfinhehgfbdgaaGreatDoor
open Go.RowKit
def RTk (s:ByteArray) (B a:Nat) (v:Value) (w wr:World):Prop :=
 ∃ (f fr:Nat) (acc:List Tok),fr≤a∧a≤s.size∧s.size≤a+f∧acc.length≤a∧toks s.data.toList=acc++tks s.data.toList f fr a∧Below B w wr ∧
   ((fr=a∧(acc=[]∨∃ r b n,acc=r++[repT b n])∧ownsK wr B v acc)∨(fr<a∧ownsK wr B v (acc++[⟨s.extract fr a,0,0⟩])))
theorem pend (s:ByteArray) (fr a:Nat) (h:fr<a) (ha:a≤s.size):ownT ((s.data.toList.take a).drop fr)=[⟨s.extract fr a,0,0⟩]:=by
 have hne:(s.data.toList.take a).drop fr≠[]:=by
   intro e;have:=congrArg List.length e;rw [List.length_drop,List.length_take,←size_data] at this;simp at this;omega
 rw [ownT_cons hne,←ext_data,bs_of]
theorem pend0 (s:ByteArray) (a:Nat):ownT ((s.data.toList.take a).drop a)=[]:=by
 have:(s.data.toList.take a).drop a=[]:=by apply List.drop_eq_nil_of_le;simp;omega
 rw [this];rfl
theorem ext_join (s:ByteArray) (fr a:Nat) (h:fr≤a) (ha:a<s.size):s.extract fr a++s.extract a (a+1)=s.extract fr (a+1):=by
 apply bs_ext
 rw [app_data,ext_data,ext_data,ext_data];have hl:a<s.data.toList.length:=by rw [←size_data];exact ha
 rw [←List.drop_append_of_le_length (by rw [List.length_take];omega)]
 congr 1
 rw [List.take_succ_eq_append_getElem hl]
 congr 1
 rw [List.drop_append_of_le_length (by rw [List.length_take];omega)];simp
theorem ext_ne (s:ByteArray) (fr a:Nat) (h:fr<a) (ha:a≤s.size):(s.extract fr a).toList.isEmpty=false:=by
 rw [toL];have hl:(s.extract fr a).data.toList.length=a-fr:=by rw [←size_data,ByteArray.size_extract];omega
 cases h2:(s.extract fr a).data.toList with
 | nil=>rw [h2] at hl;simp at hl;omega
 | cons=>rfl
set_option maxRecDepth 100000 in
set_option maxHeartbeats 2000000 in
theorem rtokens_any (s:ByteArray) (w:World) (hs:s.size≤400000) :
   Calls Tryz.prog 80 #[.string s] w (TokensIs w (toks s.data.toList)):=by
 have HS : Hid (s.size ≤ maxLen) := by have h : s.size ≤ maxLen := by unfold maxLen; omega
                                       exact h
 have hlen:s.data.toList.length=s.size:=(size_data s).symm;have HL:=Lib.hid hlen;clear hlen;go_enter Tryz.func80,Tryz.ntmps80
 go_wp2
 go_loopw [3,4] (fun v a wr=>∃ a':Nat,a=.int .i64 a'∧a'≤s.size∧RTk s w.heap.size a' v w wr) (fun _ a _=>s.size-(intOf a).toNat)
 case atStart=>exact ⟨0,rfl,by omega,s.size,0,[],Nat.le_refl _,Nat.zero_le _,by omega,by simp,by unfold toks;rw [HL.out];rfl,Below.refl _ _,.inl ⟨rfl,.inl rfl,ownsK_nil _ _⟩⟩
 case round =>
   obtain ⟨a,rfl,ha,hRT⟩:=hrel;have HRT:=Lib.hid hRT;clear hRT;by_cases hlt:a<s.size
   · obtain ⟨f,fr,acc,hfr,_,hf,hac,heq,hbel,hown⟩:=HRT.out;have HBEL:=Lib.hid hbel;have HOWN:=Lib.hid hown;have HEQ:=Lib.hid heq;clear hbel hown heq HRT;obtain ⟨f,rfl⟩:∃ f',f=f'+1:=⟨f-1,by omega⟩;have hl:a<s.data.toList.length:=by rw [HL.out];exact hlt
     rcases find_cases s.data.toList a with ⟨hz,_⟩ | ⟨b,n,hfn,_,hb1,hb2,hb3,hn1,hn2,hn3,_⟩
     · have HR : Hid (findV (find s.data.toList a) = .tuple #[.int .i64 0, .int .i64 0]) := by
         have h:findV (find s.data.toList a)=.tuple #[.int .i64 0,.int .i64 0]:=by rw [hz];rfl
         exact h
       have HN:Hid (toks s.data.toList=acc++tks s.data.toList f fr (a+1)):=by
         have h:toks s.data.toList=acc++tks s.data.toList f fr (a+1):=by rw [HEQ.out,tks_step hl (by rw [hz])]
         exact h
       clear hz hl HEQ;rcases HOWN.out with ⟨hfa,hacc,ho⟩ | ⟨hfa,ho⟩
       · subst hfa;have HACC:=Lib.hid hacc;have HO:=Lib.hid ho;obtain ⟨t,ht⟩:∃ t:ByteArray,t=⟨#[]⟩:=⟨_,rfl⟩;have HT:=Lib.hid ht;have HB0:Hid (Below w.heap.size w wr):=HBEL.out;obtain ⟨k,hk⟩:∃ k,k=acc.length:=⟨_,rfl⟩;have HK:=Lib.hid hk;have hkl:k≤s.size:=by omega
         have HKL : Hid (acc.length + 1 ≤ 1000000) := by have h : acc.length + 1 ≤ 1000000 := by omega
                                                         exact h
         have e1:(fr:Int)≤(fr:Int)+1:=by omega
         have e2:(fr:Int)+1≤(s.size:Int):=by omega
         have hzr:=HB0.out.size;have HAC:=Lib.hid hac;clear ho HOWN HBEL hacc ht;rcases HACC.out with hnil | ⟨r,b0,n0,hrep⟩
         · obtain ⟨va,vc,hv,_⟩:=HO.out.is.form;have hkz:acc.length=0:=by rw [hnil];rfl
           rw [hkz] at hv;subst hv;clear hkz hac hk HACC hnil;go_wp2_with fail
           refine (rfind_nat s fr _ HS.out hlt).mono ?_;rintro e w1 ⟨rfl,q1,rfl⟩;rw [HR.out];go_wp2_with (at_builtin;refine wpList_append_tok rfl _ _ rfl w.heap.size _ acc rfl ((HO.out.drewN _).alloc _) wr.heap.size 1 rfl ⟨⟨#[]⟩,0,0⟩ ?a1 ?a2 ?a3 ?_)
           case a1=>exact tokBlk_new _ _ _ _
           case a2=>exact HKL.out
           case a3=>simp;omega
           · intro g cap w2 ho2 hg2;have hbel2:Below w.heap.size w w2:=((below_drewN HB0.out q1).alloc hzr _).grown hg2 (by simp;omega) (fun g hg=>(HO.out.lt g hg).1);have HB2:=Lib.hid hbel2;obtain ⟨hc1,hc2,hc3⟩:=ho2.last rfl;simp only at hc1
             rw [←HT.out] at hc1;have HO2:=Lib.hid ho2;rw [←HK.out] at hc1 hc2;rw [←HK.out];have htz:t.size≤400000:=by rw [HT.out];decide
             clear ho2 hg2 hbel2;go_wp2;go_region
             clear hc1 hc2 htz;go_wp2;go_roundw
             case rel =>
               refine ⟨fr+1,by go_num,by omega,f,fr,acc,by omega,by omega,by omega,by have:=HAC.out;omega,HN.out,(below_drewN HB2.out _).setCell hc3 _,.inr ⟨by omega,?_⟩⟩;rw [HK.out,HT.out,show (⟨#[]⟩:ByteArray)++s.extract fr (fr+1)=s.extract fr (fr+1) from bs_ext (by rw [app_data];rfl)];exact (HO2.out.drewN _).stored rfl _
             case measure=>simp [intOf];omega
         · have ho:=HO.out;rw [hrep] at ho;obtain ⟨g0,cap0,hv⟩:=ho.form;subst hv;obtain ⟨hc1,hc2,hc3⟩:=ho.last rfl;obtain ⟨k0,hk0⟩:∃ k,k=r.length:=⟨_,rfl⟩;have hkk:acc.length=k0+1:=by rw [hrep,hk0,List.length_append];rfl
           rw [←hk0] at hc1 hc2 HO;rw [←hk0];have hc1':wr.cell? ⟨g0,k0 * 3,none⟩=some (.string ⟨#[]⟩):=hc1;have hkb:((k0:Int)+1 == 0)=false:=by simp;omega
           have hkl0:k0≤s.size:=by omega
           clear ho hac hk HACC hrep hc1 hk0 hkk;go_wp2_with fail
           refine (rfind_nat s fr _ HS.out hlt).mono ?_;rintro e w1 ⟨rfl,q1,rfl⟩;rw [HR.out];go_wp2_with (at_builtin;refine wpList_append_tok rfl _ _ rfl w.heap.size _ acc rfl ((HO.out.drewN _).alloc _) wr.heap.size 1 rfl ⟨⟨#[]⟩,0,0⟩ ?b1 ?b2 ?b3 ?_)
           case b1=>exact tokBlk_new _ _ _ _
           case b2=>exact HKL.out
           case b3=>simp;omega
           · intro g cap w2 ho2 hg2;clear hc1' hc2 hc3 hkb;have hbel2:Below w.heap.size w w2:=((below_drewN HB0.out q1).alloc hzr _).grown hg2 (by simp;omega) (fun g hg=>(HO.out.lt g hg).1);have HB2:=Lib.hid hbel2;obtain ⟨hc1,hc2,hc3⟩:=ho2.last rfl;simp only at hc1
             rw [←HT.out] at hc1;have HO2:=Lib.hid ho2;rw [←HK.out] at hc1 hc2;rw [←HK.out];have htz:t.size≤400000:=by rw [HT.out];decide
             clear ho2 hg2 hbel2;go_wp2;go_region
             clear hc1 hc2 htz;go_wp2;go_roundw
             case rel =>
               refine ⟨fr+1,by go_num,by omega,f,fr,acc,by omega,by omega,by omega,by have:=HAC.out;omega,HN.out,(below_drewN HB2.out _).setCell hc3 _,.inr ⟨by omega,?_⟩⟩;rw [HK.out,HT.out,show (⟨#[]⟩:ByteArray)++s.extract fr (fr+1)=s.extract fr (fr+1) from bs_ext (by rw [app_data];rfl)];exact (HO2.out.drewN _).stored rfl _
             case measure=>simp [intOf];omega
       · obtain ⟨g,cap,hv⟩:=ho.form;subst hv;obtain ⟨hc1,hc2,hc3⟩:=ho.last rfl;have HO:=Lib.hid ho;obtain ⟨k,hk⟩:∃ k,k=acc.length:=⟨_,rfl⟩;rw [←hk] at hc1 hc2 HO;rw [←hk];have HK:=Lib.hid hk;obtain ⟨t,ht⟩:∃ t,t=s.extract fr a:=⟨_,rfl⟩;have hte:t.toList.isEmpty=false:=by rw [ht];exact ext_ne s fr a hfa ha
         have htz:t.size≤400000:=by rw [ht,ByteArray.size_extract];omega
         have hkb:((k:Int)+1 == 0)=false:=by simp;omega
         simp only at hc1
         rw [←ht] at hc1;have HT:=Lib.hid ht;have e1:(a:Int)≤(a:Int)+1:=by omega
         have e2:(a:Int)+1≤(s.size:Int):=by omega
         have hkl:k≤s.size:=by omega
         have HAC:=Lib.hid hac;clear ho hk ht HOWN hac;go_wp2_with fail
         refine (rfind_nat s a _ HS.out hlt).mono ?_;rintro e w1 ⟨rfl,q1,rfl⟩;rw [HR.out];go_wp2;go_region
         clear hc1 hc2 hte htz hkb;go_wp2;go_roundw
         case rel =>
           refine ⟨a+1,by go_num,by omega,f,fr,acc,by omega,by omega,by omega,by have:=HAC.out;omega,HN.out,(below_drewN HBEL.out _).setCell hc3 _,.inr ⟨by omega,?_⟩⟩;rw [HK.out,HT.out,ext_join s fr a hfr hlt];have h:=HO.out;rw [HK.out] at h;exact (h.drewN _).stored rfl _
         case measure=>simp [intOf];omega
     · rw [HL.out] at hn3;have HR:Hid (findV (find s.data.toList a)=.tuple #[.int .i64 b,.int .i64 n]):=by
         have h:findV (find s.data.toList a)=.tuple #[.int .i64 b,.int .i64 n]:=by rw [hfn];rfl
         exact h
       obtain ⟨L1,hL1,ho1⟩:∃ L1,acc++ownT ((s.data.toList.take a).drop fr)=L1∧ownsK wr w.heap.size u3 L1:=by
         refine ⟨_,rfl,?_⟩;rcases HOWN.out with ⟨h1,_,h2⟩ | ⟨h1,h2⟩
         · rw [h1,pend0,List.append_nil];exact h2
         · rw [pend s fr a h1 ha];exact h2
       have hol:L1.length≤a+1:=by
         rw [←hL1,List.length_append];have:(ownT ((s.data.toList.take a).drop fr)).length≤1:=by unfold ownT;split <;> simp
         omega
       have HN:Hid (toks s.data.toList=(L1++[repT b n])++tks s.data.toList f (a+n) (a+n)):=by
         have h:toks s.data.toList=(L1++[repT b n])++tks s.data.toList f (a+n) (a+n):=by
           rw [HEQ.out,tks_rep hl hfn (by omega),←hL1];simp
         exact h
       have HO1:=Lib.hid ho1;have HOL:=Lib.hid hol
       have HOL1 : Hid (L1.length + 1 ≤ 1000000) := by have h : L1.length + 1 ≤ 1000000 := by omega
                                                       exact h
       have hn0:0<n:=by omega
       have hz1:=HBEL.out.size;clear hfn hl HEQ hL1 ho1 hol HOWN;go_wp2_with fail
       refine (rfind_nat s a _ HS.out hlt).mono ?_;rintro e w1 ⟨rfl,q1,rfl⟩;rw [HR.out];go_wp2_with (at_builtin;refine wpList_append_tok rfl _ _ rfl w.heap.size _ L1 rfl ((HO1.out.drewN _).alloc _) wr.heap.size 1 rfl (repT b n) ?d1 ?d2 ?d3 ?_)
       case d1=>exact tokBlk_new _ _ _ _
       case d2=>exact HOL1.out
       case d3=>simp;omega
       · intro g cap w2 ho2 hg2;have HB2:Hid (Below w.heap.size w w2):=((below_drewN HBEL.out q1).alloc hz1 _).grown hg2 (by simp;omega) (fun g hg=>(HO1.out.lt g hg).1);have HO2:=Lib.hid ho2;clear ho2 hg2;go_wp2;go_roundw
         case rel=>exact ⟨a+n,by go_num,by omega,f,a+n,_,Nat.le_refl _,by omega,by omega,by rw [List.length_append];simp only [List.length_singleton];have:=HOL.out;omega,HN.out,HB2.out,.inl ⟨rfl,.inr ⟨_,_,_,rfl⟩,HO2.out⟩⟩
         case measure=>simp [intOf];omega
   · obtain rfl:a=s.size:=by omega
     obtain ⟨f,fr,acc,hfr,_,hf,hac,heq,hbel,hown⟩:=HRT.out;have HBEL:=Lib.hid hbel;have HN:Hid (ownsK wr w.heap.size u3 (toks s.data.toList)):=by
       have h:ownsK wr w.heap.size u3 (toks s.data.toList):=by
         rw [heq,tks_end (by rw [HL.out];omega)];rcases hown with ⟨h1,_,h2⟩ | ⟨h1,h2⟩
         · rw [h1,pend0,List.append_nil];exact h2
         · rw [pend s fr s.size h1 (Nat.le_refl _)];exact h2
       exact h
     clear hbel hown heq HRT;go_wp2;go_ret;exact ⟨_,rfl,HN.out,HBEL.out⟩
end Go.Proofs.YtgfinhehgfbdgaaGreatDoor
namespace Go.Proofs.YtgfinhehgfbdgaaGreatDoor
open Go.RowKit
def wE (x:Wr):Nat:=wriE x.time x.rep x.kind x.key x.value x.n
def wid (x:Wr):Int×Int:=(x.time,x.rep)
def late (q x:Wr):Prop:=cI (wid x) (wid q)=1
instance (q x:Wr):Decidable (late q x):=by unfold late;infer_instance
def lateO:Option Wr→Wr→Prop
 | none,_=>True
 | some q,x=>late q x
instance (p:Option Wr) (x:Wr):Decidable (lateO p x):=by cases p <;> (unfold lateO;infer_instance)
def bwE (f h:List Ent) (p:Option Wr) (x:Wr):Nat:=if wE x≠0 then wE x else if ¬ lateO p x then 10 else if wiF (wid x) f h=false then 6 else 0
def bwr (f h:List Ent):List Wr→Nat→Option Wr→Nat×Int
 | [],_,_=>(0,-1)
 | x::r,i,p=>if bwE f h p x≠0 then (bwE f h p x,(i:Int)) else bwr f h r (i+1) (some x)
def bbE (f h:List Ent):Nat:=if (vrightF f).1≠0 then (vrightF f).1 else if (vrightF h).1≠0 then (vrightF h).1 else if covB h f=false then 13 else 0
def batF (f h:List Ent) (ws:List Wr):Nat×Int:=if bbE f h≠0 then (bbE f h,-1) else if 60<ws.length then (4,-1) else bwr f h ws 0 none
theorem bwr_bad {f h:List Ent} {x:Wr} {r:List Wr} {i:Nat} {p:Option Wr} {e:Nat} (hx:bwE f h p x=e) (he:e≠0):bwr f h (x::r) i p=(e,(i:Int)):=by subst hx;rw [bwr,if_pos he]
theorem bwr_good {f h:List Ent} {x:Wr} {r:List Wr} {i:Nat} {p:Option Wr} (hx:bwE f h p x=0):bwr f h (x::r) i p=bwr f h r (i+1) (some x):=by rw [bwr,if_neg (by rw [hx];simp)]
theorem batF_bb {f h:List Ent} {ws:List Wr} {e:Nat} (hx:bbE f h=e) (he:e≠0):batF f h ws=(e,-1):=by subst hx;unfold batF;rw [if_pos he]
theorem batF_many {f h:List Ent} {ws:List Wr} (hx:bbE f h=0) (hl:60<ws.length):batF f h ws=(4,-1):=by unfold batF;rw [if_neg (by rw [hx];simp),if_pos hl]
theorem batF_rest {f h:List Ent} {ws:List Wr} (hx:bbE f h=0) (hl:¬ 60<ws.length):batF f h ws=bwr f h ws 0 none:=by unfold batF;rw [if_neg (by rw [hx];simp),if_neg hl]
theorem bwE_w {f h:List Ent} {p:Option Wr} {x:Wr} {e:Nat} (hx:wE x=e) (he:e≠0):bwE f h p x=e:=by subst hx;unfold bwE;rw [if_pos he]
theorem bwE_order {f h:List Ent} {p:Option Wr} {x:Wr} (hx:wE x=0) (hl:¬ lateO p x):bwE f h p x=10:=by unfold bwE;rw [if_neg (by rw [hx];simp),if_pos hl]
theorem bwE_state {f h:List Ent} {p:Option Wr} {x:Wr} (hx:wE x=0) (hl:lateO p x) (hw:wiF (wid x) f h=false):bwE f h p x=6:=by unfold bwE;rw [if_neg (by rw [hx];simp),if_neg (by simpa using hl),if_pos hw]
theorem bwE_fine {f h:List Ent} {p:Option Wr} {x:Wr} (hx:wE x=0) (hl:lateO p x) (hw:wiF (wid x) f h=true):bwE f h p x=0:=by unfold bwE;rw [if_neg (by rw [hx];simp),if_neg (by simpa using hl),if_neg (by rw [hw];decide)]
theorem bwE_ok {f h:List Ent} {p:Option Wr} {x:Wr}:bwE f h p x=0↔wE x=0∧lateO p x∧wiF (wid x) f h=true:=by
 constructor
 · intro h0;unfold bwE at h0;split at h0
   · rename_i h1;exact absurd h0 h1
   · rename_i h1;split at h0
     · simp at h0
     · rename_i h2;split at h0
       · simp at h0
       · rename_i h3;exact ⟨by simpa using h1,by simpa using h2,by simpa using h3⟩
 · rintro ⟨h1,h2,h3⟩;exact bwE_fine h1 h2 h3
def okW (f h:List Ent):Option Wr→List Wr→Prop
 | _,[]=>True
 | p,x::r=>bwE f h p x=0∧okW f h (some x) r
theorem bwr_ok {f h:List Ent} (l:List Wr):∀ i p,(bwr f h l i p).1=0↔okW f h p l:=by
 induction l with
 | nil=>intro i p;simp [bwr,okW]
 | cons x r ih =>
   intro i p;by_cases h0:bwE f h p x=0
   · rw [bwr_good h0,ih];exact ⟨fun h1=>⟨h0,h1⟩,fun h1=>h1.2⟩
   · rw [bwr_bad rfl h0];exact ⟨fun h1=>absurd h1 h0,fun h1=>absurd h1.1 h0⟩
theorem bwr_place {f h:List Ent} (l:List Wr):∀ i p,(bwr f h l i p).1=0→bwr f h l i p=(0,-1):=by
 induction l with
 | nil=>intro i p _;rfl
 | cons x r ih =>
   intro i p h1;by_cases h0:bwE f h p x=0
   · rw [bwr_good h0] at h1 ⊢;exact ih _ _ h1
   · rw [bwr_bad rfl h0] at h1;exact absurd h1 h0
theorem bbE_ok {f h:List Ent}:bbE f h=0↔rightV f∧rightV h∧covB h f=true:=by
 rw [←vright_ok,←vright_ok];unfold bbE
 constructor
 · intro h0;split at h0
   · rename_i h1;exact absurd h0 h1
   · rename_i h1;split at h0
     · rename_i h2;exact absurd h0 h2
     · rename_i h2;split at h0
       · simp at h0
       · rename_i h3;exact ⟨by simpa using h1,by simpa using h2,by simpa using h3⟩
 · rintro ⟨h1,h2,h3⟩;rw [if_neg (by simpa using h1),if_neg (by simpa using h2),if_neg (by rw [h3];decide)]
theorem batF_ok {f h:List Ent} {ws:List Wr}:(batF f h ws).1=0↔(rightV f∧rightV h∧covB h f=true)∧ws.length≤60∧okW f h none ws:=by
 rw [←bbE_ok];by_cases h1:bbE f h=0
 · by_cases h2:60<ws.length
   · rw [batF_many h1 h2]
     constructor
     · intro h;cases h
     · intro h;omega
   · rw [batF_rest h1 h2,bwr_ok];exact ⟨fun h=>⟨h1,by omega,h⟩,fun h=>h.2.2⟩
 · rw [batF_bb rfl h1];exact ⟨fun h=>absurd h h1,fun h=>absurd h.1 h1⟩
theorem batF_place {f h:List Ent} {ws:List Wr} (h0:(batF f h ws).1=0):batF f h ws=(0,-1):=by
 unfold batF at h0 ⊢;split
 · rename_i h1;rw [if_pos h1] at h0;exact absurd h0 h1
 · rename_i h1;rw [if_neg h1] at h0;split
   · rename_i h2;rw [if_pos h2] at h0;cases h0
   · rename_i h2;rw [if_neg h2] at h0;exact bwr_place _ _ _ h0
theorem late_iff {q x:Wr}:late q x↔cI (wid q) (wid x)=-1:=by
 unfold late wid;have:=cI_neg x.time x.rep q.time q.rep;omega
theorem late_trans {a b c:Wr} (h1:late a b) (h2:late b c):late a c:=by
 rw [late_iff] at h1 h2 ⊢;exact cI_trans h1 h2
theorem okW_iff {f h:List Ent} (l:List Wr):∀ p,okW f h p l↔(∀ x∈l,wE x=0∧lateO p x∧wiF (wid x) f h=true)∧l.Pairwise late:=by
 induction l with
 | nil=>intro p;simp [okW]
 | cons x r ih =>
   intro p;show bwE f h p x=0∧okW f h (some x) r↔_
   rw [ih (some x),bwE_ok,List.pairwise_cons]
   constructor
   · rintro ⟨h1,h2,h3⟩;refine ⟨fun y hy=>?_,fun y hy=>(h2 y hy).2.1,h3⟩;rcases List.mem_cons.1 hy with rfl | hy
     · exact h1
     · obtain ⟨g1,g2,g3⟩:=h2 y hy;refine ⟨g1,?_,g3⟩;cases p with
       | none=>trivial
       | some q=>exact late_trans h1.2.1 g2
   · rintro ⟨h1,h2,h3⟩;exact ⟨h1 x List.mem_cons_self,fun y hy=>⟨(h1 y (List.mem_cons_of_mem _ hy)).1,h2 y hy,(h1 y (List.mem_cons_of_mem _ hy)).2.2⟩,h3⟩
theorem okW_none {f h:List Ent} {l:List Wr}:okW f h none l↔(∀ x∈l,wE x=0∧wiF (wid x) f h=true)∧l.Pairwise late:=by
 rw [okW_iff];exact ⟨fun ⟨h1,h2⟩=>⟨fun x hx=>⟨(h1 x hx).1,(h1 x hx).2.2⟩,h2⟩,fun ⟨h1,h2⟩=>⟨fun x hx=>⟨(h1 x hx).1,trivial,(h1 x hx).2⟩,h2⟩⟩
def rightB (f h:List Ent) (ws:List Wr):Prop:=(batF f h ws).1=0
theorem rightB_iff {f h:List Ent} {ws:List Wr}:rightB f h ws↔(rightV f∧rightV h∧covB h f=true)∧ws.length≤60∧(∀ x∈ws,wE x=0∧wiF (wid x) f h=true)∧ws.Pairwise late:=by
 unfold rightB;rw [batF_ok,okW_none]
end Go.Proofs.YtgfinhehgfbdgaaGreatDoor
namespace Go.Proofs.YtgfinhehgfbdgaaGreatDoor
open Go.RowKit
def sameV (f h:List Ent) (l:List Wr) (f2 h2:List Ent) (l2:List Wr):Bool:=decide (f=f2) && decide (h=h2) && decide (l=l2)
theorem sameV_self (f h:List Ent) (l:List Wr):sameV f h l f h l=true:=by simp [sameV]
def bat2 (w:World) (B:Nat) (a b c d e g:Value):Prop :=
 w.cell? ⟨B,0,none⟩=some a∧w.cell? ⟨B,1,none⟩=some b∧w.cell? ⟨B,2,none⟩=some c∧w.cell? ⟨B+1,0,none⟩=some d∧w.cell? ⟨B+1,1,none⟩=some e∧w.cell? ⟨B+1,2,none⟩=some g
theorem bat2_new (w:World) (a b c d e g:Value) (t u:TypeId):bat2 ((w.alloc (.cells #[a,b,c] t)).alloc (.cells #[d,e,g] u)) w.heap.size a b c d e g:=by
 unfold bat2;simp
theorem bat2.drewN {w:World} {B:Nat} {a b c d e g:Value} (h:bat2 w B a b c d e g) (n:Nat):bat2 (w.drewN n) B a b c d e g:=h
end Go.Proofs.YtgfinhehgfbdgaaGreatDoor
namespace Go.Proofs.YtgfinhehgfbdgaaGreatDoor
open Go.RowKit
set_option maxRecDepth 100000 in
set_option maxHeartbeats 1000000 in
theorem requal_ents (v1 v2:Value) (l m:List Ent) (w:World) (h1:IsEnts w v1 l) (h2:IsEnts w v2 m) (hl:l.length≤9223372036854775807) (hm:m.length≤9223372036854775807) :
   Calls Tryz.prog 53 #[v1,v2] w fun e w'=>e=.returned (.bool (decide (l=m)))∧∃ q,w'=w.drewN q:=by
 obtain ⟨a1,c1,rfl,f1⟩:=h1.form;obtain ⟨a2,c2,rfl,f2⟩:=h2.form;have F1:=Lib.hid f1;have F2:=Lib.hid f2;obtain ⟨n,hn⟩:∃ n,n=l.length:=⟨_,rfl⟩;obtain ⟨n2,hn2⟩:∃ n,n=m.length:=⟨_,rfl⟩;rw [←hn] at hl ⊢;rw [←hn2] at hm ⊢;have HN:=Lib.hid hn;have HN2:=Lib.hid hn2;clear h1 h2 f1 f2 hn hn2;by_cases hne:n=n2
 · subst hne;go_enter Tryz.func53,Tryz.ntmps53
   go_wp2
   go_loopw [13] (fun i wr=>∃ k q:Nat,k≤n∧i=.int .i64 k∧l.take k=m.take k∧wr=w.drewN q) (fun i _=>n-(intOf i).toNat)
   case atStart=>exact ⟨0,0,by omega,rfl,rfl,rfl⟩
   case round =>
     obtain ⟨k,q,hk,rfl,htk,rfl⟩:=hrel;have HTK:=Lib.hid htk;clear htk;by_cases hlt:k<n
     · obtain ⟨t, ht⟩ : ∃ t, l[k]? = some t := ⟨l[k]'(by have := HN.out; omega), List.getElem?_eq_getElem _⟩;obtain ⟨u, hu⟩ : ∃ u, m[k]? = some u := ⟨m[k]'(by have := HN2.out; omega), List.getElem?_eq_getElem _⟩;obtain ⟨b1,o1,rfl,_,p0,p1⟩:=F1.out k t ht;obtain ⟨b2,o2,rfl,_,q0,q1⟩:=F2.out k u hu;have HTT:=Lib.hid ht;have HUU:=Lib.hid hu;clear ht hu;obtain ⟨r1,t1⟩:=t;obtain ⟨r2,t2⟩:=u;simp only at p0 p1 q0 q1
       by_cases hr:r1=r2
       · by_cases ht:t1=t2
         · subst hr ht;have HST:=Lib.hid (eq_step HTK.out HTT.out HUU.out rfl);go_wp2
           go_quiet (fail)
           go_wp2;go_roundw
           case rel=>exact ⟨k+1,_,by omega,by go_num,HST.out,rfl⟩
           case measure=>simp [intOf];omega
         · subst hr;have HE:Hid (decide (l=m)=false):=Lib.hid (show decide (l=m)=false by
             rw [decide_eq_false_iff_not];rintro rfl;have:=HTT.out.symm.trans HUU.out;simp at this;exact ht this)
           have x1:(t1 == t2)=false:=by simpa using ht
           have x2:(t1 != t2)=true:=by simpa using ht
           go_wp2
           go_quiet (fail)
           go_wp2;go_ret;exact ⟨by rw [HE.out];rfl,by first | exact ⟨_,rfl⟩ | exact ⟨_,by rw [World.drewN_drewN]⟩⟩
       · have HE : Hid (decide (l = m) = false) := Lib.hid (show decide (l = m) = false by
           rw [decide_eq_false_iff_not];rintro rfl;have:=HTT.out.symm.trans HUU.out;simp at this;exact hr this.1)
         have x1:(r1 == r2)=false:=by simpa using hr
         have x2:(r1 != r2)=true:=by simpa using hr
         go_wp2
         go_quiet (fail)
         go_wp2;go_ret;exact ⟨by rw [HE.out];rfl,by first | exact ⟨_,rfl⟩ | exact ⟨_,by rw [World.drewN_drewN]⟩⟩
     · have HE : Hid (decide (l = m) = true) := Lib.hid (show decide (l = m) = true by
         rw [decide_eq_true_eq];have h:=HTK.out;rw [List.take_of_length_le (by have:=HN.out;omega),List.take_of_length_le (by have:=HN2.out;omega)] at h;exact h)
       go_wp2;go_ret;exact ⟨by rw [HE.out];rfl,by first | exact ⟨_,rfl⟩ | exact ⟨_,by rw [World.drewN_drewN]⟩⟩
 · have HE : Hid (decide (l = m) = false) := Lib.hid (show decide (l = m) = false by
     rw [decide_eq_false_iff_not];rintro rfl;exact hne (HN.out.trans HN2.out.symm))
   have x1:((n:Int) == (n2:Int))=false:=by simp;omega
   have x2:((n:Int) != (n2:Int))=true:=by simp;omega
   rw [HE.out];go_enter Tryz.func53,Tryz.ntmps53
   go_wp2;go_ret;exact ⟨rfl,0,rfl⟩
theorem requale_as (v1 v2:Value) (l m:List Ent) (c:Bool) (w:World) (h1:IsEnts w v1 l) (h2:IsEnts w v2 m) (hl:l.length≤9223372036854775807) (hm:m.length≤9223372036854775807) (hc:decide (l=m)=c) :
   Calls Tryz.prog 53 #[v1,v2] w fun e w'=>e=.returned (.bool c)∧∃ q,w'=w.drewN q :=
 (requal_ents v1 v2 l m w h1 h2 hl hm).mono fun _ _ ⟨h1,h2⟩=>⟨by rw [h1,hc],h2⟩
set_option maxRecDepth 100000 in
set_option maxHeartbeats 4000000 in
theorem requal_wrs (v1 v2:Value) (l m:List Wr) (w:World) (h1:IsWrs w v1 l) (h2:IsWrs w v2 m) (hl:l.length≤9223372036854775807) (hm:m.length≤9223372036854775807) :
   Calls Tryz.prog 54 #[v1,v2] w fun e w'=>e=.returned (.bool (decide (l=m)))∧∃ q,w'=w.drewN q:=by
 obtain ⟨a1,c1,rfl,f1⟩:=h1.form;obtain ⟨a2,c2,rfl,f2⟩:=h2.form;have F1:=Lib.hid f1;have F2:=Lib.hid f2;obtain ⟨n,hn⟩:∃ n,n=l.length:=⟨_,rfl⟩;obtain ⟨n2,hn2⟩:∃ n,n=m.length:=⟨_,rfl⟩;rw [←hn] at hl ⊢;rw [←hn2] at hm ⊢;have HN:=Lib.hid hn;have HN2:=Lib.hid hn2;clear h1 h2 f1 f2 hn hn2;by_cases hne:n=n2
 · subst hne;go_enter Tryz.func54,Tryz.ntmps54
   go_wp2
   go_loopw [13] (fun i wr=>∃ k q:Nat,k≤n∧i=.int .i64 k∧l.take k=m.take k∧wr=w.drewN q) (fun i _=>n-(intOf i).toNat)
   case atStart=>exact ⟨0,0,by omega,rfl,rfl,rfl⟩
   case round =>
     obtain ⟨k,q,hk,rfl,htk,rfl⟩:=hrel;have HTK:=Lib.hid htk;clear htk;by_cases hlt:k<n
     · obtain ⟨t, ht⟩ : ∃ t, l[k]? = some t := ⟨l[k]'(by have := HN.out; omega), List.getElem?_eq_getElem _⟩;obtain ⟨u, hu⟩ : ∃ u, m[k]? = some u := ⟨m[k]'(by have := HN2.out; omega), List.getElem?_eq_getElem _⟩;obtain ⟨b1,o1,rfl,_,p0,p1,p2,p3,p4,p5⟩:=F1.out k t ht;obtain ⟨b2,o2,rfl,_,q0,q1,q2,q3,q4,q5⟩:=F2.out k u hu;have HTT:=Lib.hid ht;have HUU:=Lib.hid hu;clear ht hu;obtain ⟨T1,R1,K1,key1,val1,N1⟩:=t;obtain ⟨T2,R2,K2,key2,val2,N2⟩:=u;simp only at p0 p1 p2 p3 p4 p5 q0 q1 q2 q3 q4 q5
       by_cases he0:T1=T2
       · subst he0;by_cases he1:R1=R2
         · subst he1;by_cases he2:K1=K2
           · subst he2;by_cases he3:key1=key2
             · subst he3;by_cases he4:val1=val2
               · subst he4;by_cases he5:N1=N2
                 · subst he5;have HST:=Lib.hid (wq_step HTK.out HTT.out HUU.out rfl);go_wp2
                   go_quiet (fail)
                   go_wp2;go_roundw
                   case rel=>exact ⟨k+1,_,by omega,by go_num,HST.out,rfl⟩
                   case measure=>simp [intOf];omega
                 · have HE : Hid (decide (l = m) = false) := Lib.hid (show decide (l = m) = false by
                     rw [decide_eq_false_iff_not];rintro rfl;have:=HTT.out.symm.trans HUU.out;simp only [Option.some.injEq,Wr.mk.injEq] at this
                     exact he5 this.2.2.2.2.2)
                   have x1:(N1 == N2)=false:=by simpa using he5
                   have x2:(N1 != N2)=true:=by simpa using he5
                   go_wp2
                   go_quiet (fail)
                   go_wp2;go_ret;exact ⟨by rw [HE.out];rfl,by first | exact ⟨_,rfl⟩ | exact ⟨_,by rw [World.drewN_drewN]⟩⟩
               · have HE : Hid (decide (l = m) = false) := Lib.hid (show decide (l = m) = false by
                   rw [decide_eq_false_iff_not];rintro rfl;have:=HTT.out.symm.trans HUU.out;simp only [Option.some.injEq,Wr.mk.injEq] at this
                   exact he4 this.2.2.2.2.1)
                 have x1:(val1.toList == val2.toList)=false:=by rw [ByteArray.toList_eq,ByteArray.toList_eq,beq_eq_false_iff_ne];intro e9;exact he4 (bytes_ext e9)
                 have x2:(val1.toList != val2.toList)=true:=by rw [bne,x1];rfl
                 go_wp2
                 go_quiet (fail)
                 go_wp2;go_ret;exact ⟨by rw [HE.out];rfl,by first | exact ⟨_,rfl⟩ | exact ⟨_,by rw [World.drewN_drewN]⟩⟩
             · have HE : Hid (decide (l = m) = false) := Lib.hid (show decide (l = m) = false by
                 rw [decide_eq_false_iff_not];rintro rfl;have:=HTT.out.symm.trans HUU.out;simp only [Option.some.injEq,Wr.mk.injEq] at this
                 exact he3 this.2.2.2.1)
               have x1:(key1.toList == key2.toList)=false:=by rw [ByteArray.toList_eq,ByteArray.toList_eq,beq_eq_false_iff_ne];intro e9;exact he3 (bytes_ext e9)
               have x2:(key1.toList != key2.toList)=true:=by rw [bne,x1];rfl
               go_wp2
               go_quiet (fail)
               go_wp2;go_ret;exact ⟨by rw [HE.out];rfl,by first | exact ⟨_,rfl⟩ | exact ⟨_,by rw [World.drewN_drewN]⟩⟩
           · have HE : Hid (decide (l = m) = false) := Lib.hid (show decide (l = m) = false by
               rw [decide_eq_false_iff_not];rintro rfl;have:=HTT.out.symm.trans HUU.out;simp only [Option.some.injEq,Wr.mk.injEq] at this
               exact he2 this.2.2.1)
             have x1:(K1 == K2)=false:=by simpa using he2
             have x2:(K1 != K2)=true:=by simpa using he2
             go_wp2
             go_quiet (fail)
             go_wp2;go_ret;exact ⟨by rw [HE.out];rfl,by first | exact ⟨_,rfl⟩ | exact ⟨_,by rw [World.drewN_drewN]⟩⟩
         · have HE : Hid (decide (l = m) = false) := Lib.hid (show decide (l = m) = false by
             rw [decide_eq_false_iff_not];rintro rfl;have:=HTT.out.symm.trans HUU.out;simp only [Option.some.injEq,Wr.mk.injEq] at this
             exact he1 this.2.1)
           have x1:(R1 == R2)=false:=by simpa using he1
           have x2:(R1 != R2)=true:=by simpa using he1
           go_wp2
           go_quiet (fail)
           go_wp2;go_ret;exact ⟨by rw [HE.out];rfl,by first | exact ⟨_,rfl⟩ | exact ⟨_,by rw [World.drewN_drewN]⟩⟩
       · have HE : Hid (decide (l = m) = false) := Lib.hid (show decide (l = m) = false by
           rw [decide_eq_false_iff_not];rintro rfl;have:=HTT.out.symm.trans HUU.out;simp only [Option.some.injEq,Wr.mk.injEq] at this
           exact he0 this.1)
         have x1:(T1 == T2)=false:=by simpa using he0
         have x2:(T1 != T2)=true:=by simpa using he0
         go_wp2
         go_quiet (fail)
         go_wp2;go_ret;exact ⟨by rw [HE.out];rfl,by first | exact ⟨_,rfl⟩ | exact ⟨_,by rw [World.drewN_drewN]⟩⟩
     · have HE : Hid (decide (l = m) = true) := Lib.hid (show decide (l = m) = true by
         rw [decide_eq_true_eq];have h:=HTK.out;rw [List.take_of_length_le (by have:=HN.out;omega),List.take_of_length_le (by have:=HN2.out;omega)] at h;exact h)
       go_wp2;go_ret;exact ⟨by rw [HE.out];rfl,by first | exact ⟨_,rfl⟩ | exact ⟨_,by rw [World.drewN_drewN]⟩⟩
 · have HE : Hid (decide (l = m) = false) := Lib.hid (show decide (l = m) = false by
     rw [decide_eq_false_iff_not];rintro rfl;exact hne (HN.out.trans HN2.out.symm))
   have x1:((n:Int) == (n2:Int))=false:=by simp;omega
   have x2:((n:Int) != (n2:Int))=true:=by simp;omega
   rw [HE.out];go_enter Tryz.func54,Tryz.ntmps54
   go_wp2;go_ret;exact ⟨rfl,0,rfl⟩
theorem requalw_as (v1 v2:Value) (l m:List Wr) (c:Bool) (w:World) (h1:IsWrs w v1 l) (h2:IsWrs w v2 m) (hl:l.length≤9223372036854775807) (hm:m.length≤9223372036854775807) (hc:decide (l=m)=c) :
   Calls Tryz.prog 54 #[v1,v2] w fun e w'=>e=.returned (.bool c)∧∃ q,w'=w.drewN q :=
 (requal_wrs v1 v2 l m w h1 h2 hl hm).mono fun _ _ ⟨h1,h2⟩=>⟨by rw [h1,hc],h2⟩
end Go.Proofs.YtgfinhehgfbdgaaGreatDoor
namespace Go.Proofs.YtgfinhehgfbdgaaGreatDoor
open Go.RowKit
def textF (l:List Tok):List UInt8:=if (rightF l 0 0).1=0 then textL [] l else []
def TextIs (w:World) (l:List Tok) (e:Ending) (w':World):Prop :=
 ∃ err,e=.returned (.tuple #[.string ⟨(textF l).toArray⟩,err])∧atIs w' err (rightF l 0 0)∧Below w.heap.size w w'
theorem textL_cons (b:List UInt8) (t:Tok) (r:List Tok):textL b (t::r)=textL (stepT b t) r:=rfl
theorem repL_succ (b:List UInt8) (k n:Nat):repL b k (n+1)=repL (b++[b.getD (b.length-k) 0]) k n:=rfl
set_option maxRecDepth 100000 in
set_option maxHeartbeats 4000000 in
theorem text_any (v:Value) (l:List Tok) (w:World) (hv:IsToks w v l) (hl:l.length≤9223372036854775807) (hz:∀ t∈l,t.own.size≤140737488351232) :
   Calls Tryz.prog 107 #[v] w (TextIs w l):=by
 have HV:=Lib.hid hv;have HLL:=Lib.hid hl;have HZ:=Lib.hid hz;by_cases hr:(rightF l 0 0).1=0
 · have HR:=Lib.hid (rightF_any hr);have HT:Hid (textF l=textL [] l):=by
     have h:textF l=textL [] l:=by unfold textF;rw [if_pos hr]
     exact h
   have HR0:=Lib.hid hr;obtain ⟨a1,c1,rfl,f1⟩:=hv.form;have F1:=Lib.hid f1;obtain ⟨n,hn⟩:∃ n,n=l.length:=⟨_,rfl⟩;rw [←hn] at hl ⊢ HV;have HN:=Lib.hid hn;clear hv f1 hn hz hr;go_enter Tryz.func107,Tryz.ntmps107
   go_wp2_with fail
   refine (right_any _ l _ HV.out HLL.out HZ.out).mono ?_;rintro r w0 ⟨err,rfl,hat,hb0⟩;obtain rfl:err=.nilIface:=by
     rcases hat with ⟨_,h⟩ | ⟨h,_⟩
     · exact h
     · exact absurd HR0.out h
   have HB0:=Lib.hid hb0;clear hat hb0;go_wp2
   go_loopw [5,15] (fun v i wr=>∃ (k:Nat) (acc:List UInt8),k≤n∧i=.int .i64 k∧textL [] l=textL acc (l.drop k)∧(rightF (l.drop k) k acc.length).1=0∧acc.length≤20000∧ownsB wr w.heap.size v acc∧Below w.heap.size w wr) (fun _ i _=>n-(intOf i).toNat)
   case atStart=>exact ⟨0,[],by omega,rfl,rfl,HR0.out,by simp,ownsB_nil _ _,HB0.out⟩
   case round =>
     obtain ⟨k,acc,hk,rfl,htx,hrt,hac,hown,hbel⟩:=hrel;have HTX:=Lib.hid htx;have HRT:=Lib.hid hrt;have HO:=Lib.hid hown;have HB:=Lib.hid hbel;clear htx hrt hown hbel;by_cases hlt:k<n
     · have hkl:k<l.length:=by have:=HN.out;omega
       obtain ⟨t,ht⟩:∃ t,l[k]? = some t:=⟨l[k],List.getElem?_eq_getElem hkl⟩;obtain ⟨b1,o1,rfl,hb1,p0,p1,p2⟩:=F1.out k t ht;have hd:l.drop k=t::l.drop (k+1):=by
         rw [List.drop_eq_getElem_cons hkl];congr 1;rw [List.getElem?_eq_getElem hkl] at ht;exact Option.some.inj ht
       obtain ⟨own,back,size⟩:=t;simp only at p0 p1 p2
       have q0:=(HB.out.cell (p:=⟨b1,o1+k * 3,none⟩) hb1).trans p0;have q1:=(HB.out.cell (p:=⟨b1,o1+k * 3+1,none⟩) hb1).trans p1;have q2:=(HB.out.cell (p:=⟨b1,o1+k * 3+2,none⟩) hb1).trans p2;have hzr:=HB.out.size;have hrt:=HRT.out;rw [hd] at hrt;obtain ⟨hw0,hw1⟩:=rightF_head hrt;have hle:=wrongN_le hw0;obtain ⟨nn,hnn⟩:∃ nn:Nat,size=nn:=by
         rcases wrongN_ok hw0 with ⟨_,h,_⟩ | ⟨_,h,_⟩
         · exact ⟨0,h⟩
         · exact Int.eq_ofNat_of_zero_le (Int.le_trans (by decide) h)
       subst hnn;have hfacts:own.size≤20000∧nn≤67∧(0<nn→own.size=0∧1≤back∧back≤acc.length):=by
         rcases wrongN_ok hw0 with ⟨h1,h2,h3,h4⟩ | ⟨h1,h2,h3,h4,h5,h6,h7⟩
         · simp only at h1 h2 h3 h4
           exact ⟨by omega,by omega,fun h=>absurd h (by omega)⟩
         · simp only at h1 h2 h3 h4 h5 h6 h7
           exact ⟨by omega,by omega,fun h=>⟨h1,h4,h6⟩⟩
       have HD:Hid (textL [] l=textL (repL (acc++own.data.toList) back.toNat nn) (l.drop (k+1))):=by
         have h:textL [] l=textL (repL (acc++own.data.toList) back.toNat nn) (l.drop (k+1)):=by
           rw [HTX.out,hd,textL_cons];rfl
         exact h
       have HW1:Hid ((rightF (l.drop (k+1)) (k+1) ((acc++own.data.toList).length+nn)).1=0):=by
         have h:(rightF (l.drop (k+1)) (k+1) ((acc++own.data.toList).length+nn)).1=0:=by
           have e:(acc++own.data.toList).length+nn=acc.length+lenT ⟨own,back,nn⟩:=by
             rw [List.length_append,←size_data];show _=_+(own.size+(nn:Int).toNat);omega
           rw [e];exact hw1
         exact h
       have hle2:(acc++own.data.toList).length+nn≤20000:=by
         rw [List.length_append,←size_data];have h:lenT ⟨own,back,nn⟩=own.size+nn:=by show own.size+(nn:Int).toNat=_;omega
         omega
       obtain ⟨acc1,hacc1⟩:∃ acc1,acc++own.data.toList=acc1:=⟨_,rfl⟩;have hal:acc.length≤acc1.length:=by rw [←hacc1,List.length_append];omega
       rw [hacc1] at HD HW1 hle2;have HA1:=Lib.hid hacc1;obtain ⟨f1',f2',f3'⟩:=hfacts;have HF3:=Lib.hid f3';clear p0 p1 p2 ht hd hkl hrt hw0 hw1 hle HTX HRT hacc1 f3';go_wp2_with (at_builtin;refine wpList_append_text rfl _ _ rfl w.heap.size _ acc rfl (HO.out.alloc _) own rfl ?c1 ?c2 ?_)
       case c1=>omega
       case c2=>simp;omega
       · intro v1 w1 ho1 hg1;rw [HA1.out] at ho1;have htb:tokBlk w1 wr.heap.size ⟨own,back,nn⟩:=(tokBlk_new wr own back nn).grown hg1 ((HO.out.alloc _).ne_tok (tokBlk_new wr own back nn));have hbel1:Below w.heap.size w w1:=(HB.out.alloc hzr _).grown hg1 (by simp;omega) (fun g hg=>(HO.out.lt g hg).1);have HTB:=Lib.hid htb;have HO1:=Lib.hid ho1;have HB1:=Lib.hid hbel1;obtain ⟨_,_,t2⟩:=htb.cells;simp only at t2
         clear ho1 hg1 htb hbel1 q0 q1 q2;go_wp2;obtain ⟨Bt,hBt⟩:∃ B,B=wr.heap.size:=⟨_,rfl⟩;rw [←hBt];rw [←hBt] at HTB;clear t2 hBt hzr HB HO
         go_loopw [5,25] (fun v j wi=>∃ (j':Nat) (b:List UInt8),j'≤nn∧j=.int .i64 j'∧repL acc1 back.toNat nn=repL b back.toNat (nn-j')∧b.length=acc1.length+j'∧ownsB wi w.heap.size v b∧tokBlk wi Bt ⟨own,back,nn⟩∧Below w.heap.size w wi) (fun _ j _=>nn-(intOf j).toNat)
         case atStart=>exact ⟨0,acc1,by omega,rfl,rfl,rfl,HO1.out,HTB.out,HB1.out⟩
         case round =>
           obtain ⟨j,b,hj,rfl,hrep,hbl,hown,htb,hbel⟩:=hrel;have HREP:=Lib.hid hrep;have HBL:=Lib.hid hbl;by_cases hjl:j<nn
           · obtain ⟨_,hk1,hk2⟩:=HF3.out (by omega);obtain ⟨kb,rfl⟩:=Int.eq_ofNat_of_zero_le (show 0≤back by omega);rcases hown.forms with ⟨_,hnil⟩ | ⟨g,cap,hv,hbg,hgl,hcells⟩
             · rw [hnil] at hbl;simp at hbl;omega
             · subst hv;obtain ⟨m,hm⟩:∃ m,m=b.length:=⟨_,rfl⟩;obtain ⟨r,hr⟩:∃ r,r=b.length-kb:=⟨_,rfl⟩;have hcr:=hcells r (by omega);obtain ⟨_,t1,_⟩:=htb.cells;simp only at t1
               have e1:(m:Int)-(kb:Int)=(r:Int):=by omega
               have hrm:r<m:=by omega
               have hm2:m≤20100:=by omega
               have HRN:Hid (repL acc1 kb nn=repL (b++[b.getD r 0]) kb (nn-(j+1))):=by
                 have h:repL acc1 kb nn=repL (b++[b.getD r 0]) kb (nn-(j+1)):=by
                   have h2:=HREP.out;rw [Int.toNat_natCast,show nn-j=(nn-(j+1))+1 by omega,repL_succ,←hr] at h2;exact h2
                 exact h
               obtain ⟨c,hc⟩:∃ c,b.getD r 0=c:=⟨_,rfl⟩;rw [hc] at hcr HRN;rw [←hm];have HOW:=Lib.hid hown;rw [←hm] at HOW;have HTB2:=Lib.hid htb;have HB2:=Lib.hid hbel;have HM:=Lib.hid hm;have hzi:=hbel.size;clear hrep hbl hown htb hbel hcells hr hc hm HREP;go_wp2_with (at_builtin;refine wpList_append_byte rfl _ _ rfl w.heap.size _ b rfl (HOW.out.alloc _) ⟨wr.heap.size,0,none⟩ 1 rfl ((c.toNat:Nat):Int) c ?d1 ?d2 ?d3 ?d4 ?_)
               case d2=>rfl
               case d3=>have:=HM.out;omega
               case d4=>first | omega | (simp;omega)
               · intro v2 w2 ho2 hg2 _;have HB3:Hid (Below w.heap.size w w2):=(HB2.out.alloc hzi _).grown hg2 (by simp;omega) (fun g hg=>(HOW.out.lt g hg).1);have HTB3:Hid (tokBlk w2 Bt ⟨own,kb,nn⟩):=(HTB2.out.alloc _).grown hg2 (HOW.out.ne_tok HTB2.out);have HO3:=Lib.hid ho2;clear ho2 hg2 hcr t1;go_wp2;go_roundw
                 case rel=>exact ⟨j+1,b++[c],by omega,by go_num,by rw [Int.toNat_natCast];exact HRN.out,by rw [List.length_append,List.length_singleton,HBL.out];omega,HO3.out,HTB3.out,HB3.out⟩
                 case measure=>simp [intOf];omega
           · have HRN : Hid (textL [] l = textL b (l.drop (k + 1))) := by
               have h:textL [] l=textL b (l.drop (k+1)):=by rw [HD.out,HREP.out,show nn-j=0 by omega];rfl
               exact h
             have HRW:Hid ((rightF (l.drop (k+1)) (k+1) b.length).1=0):=by
               have h:(rightF (l.drop (k+1)) (k+1) b.length).1=0:=by rw [hbl,show j=nn by omega];exact HW1.out
               exact h
             have HOW:=Lib.hid hown;have HB2:=Lib.hid hbel;obtain ⟨_,_,t2⟩:=htb.cells;clear hrep hbl hown hbel htb;go_wp2;go_roundw
             case rel=>exact ⟨k+1,b,by omega,by go_num,HRN.out,HRW.out,by have:=HBL.out;omega,HOW.out,HB2.out⟩
             case measure=>simp [intOf];omega
     · have HRN : Hid (textF l = acc) := by
         have h:textF l=acc:=by rw [HT.out,HTX.out,List.drop_eq_nil_of_le (by have:=HN.out;omega)];rfl
         exact h
       have hcv:=run_string_ownsB HO.out;go_wp2;go_ret2;exact ⟨_,by rw [HRN.out];rfl,.inl ⟨HR.out,rfl⟩,HB.out⟩
 · have HT : Hid (textF l = []) := by
     have h:textF l=[]:=by unfold textF;rw [if_neg hr]
     exact h
   have HR0:=Lib.hid hr;clear hv hl hz hr;go_enter Tryz.func107,Tryz.ntmps107
   go_wp2_with fail
   refine (right_any _ l _ HV.out HLL.out HZ.out).mono ?_;rintro r w0 ⟨err,rfl,hat,hb0⟩;have HAT:=Lib.hid hat;have HB0:=Lib.hid hb0;obtain ⟨b,rfl,_⟩:∃ b,err=.iface 82 (.pointer (some ⟨b,0,none⟩))∧True:=by
     rcases hat with ⟨h,_⟩ | ⟨_,b,h,_⟩
     · exact absurd (by rw [h]) HR0.out
     · exact ⟨b,h,trivial⟩
   clear hat hb0;go_wp2;go_ret2;exact ⟨_,by rw [HT.out];rfl,HAT.out,HB0.out⟩
end Go.Proofs.YtgfinhehgfbdgaaGreatDoor
