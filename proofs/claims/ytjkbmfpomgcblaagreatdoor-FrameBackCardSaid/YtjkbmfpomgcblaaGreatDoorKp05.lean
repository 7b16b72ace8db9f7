import Derived.Test.YtjkbmfpomgcblaaGreatDoorKp04
namespace Go.Proofs.YtjkbmfpomgcblaaGreatDoor
def putT (t:Tok):List UInt8 :=
 if t.own.size=0 then putL (2 * (t.size.toNat - 4) + 1) ++ putL (t.back.toNat - 1) else putL (2 * t.own.size) ++ t.own.data.toList
def writeL (l:List Tok):List UInt8:=l.flatMap putT
theorem writeL_cons (t:Tok) (l:List Tok):writeL (t :: l)=putT t ++ writeL l:=by simp [writeL]
theorem writeL_nil:writeL []=[]:=rfl
theorem writeL_app (l m:List Tok):writeL (l ++ m)=writeL l ++ writeL m:=by simp [writeL]
def writeF (l:List Tok):List UInt8:=if (rightF l 0 0).1=0 then writeL l else []
def bkL (l:List UInt8):Nat×Nat×Nat:=if (getL l).2.2≠0 then (0,0,(getL l).2.2) else if 1023 < (getL l).1 then (0,0,2) else getL l
def getT (l:List UInt8):(Nat×Nat) ⊕ (Tok×Nat) :=
 if (getL l).2.2≠0 then .inl ((getL l).2.2,0)
 else if (getL l).1 % 2=0 then
   if (getL l).1=0 then .inl (3,0)
   else if l.length < (getL l).2.1 + (getL l).1 / 2 then .inl (7,l.length)
   else .inr (⟨⟨((l.drop (getL l).2.1).take ((getL l).1 / 2)).toArray⟩,0,0⟩,(getL l).2.1 + (getL l).1 / 2)
 else if 63 < (getL l).1 / 2 then .inl (2,0)
 else if (bkL (l.drop (getL l).2.1)).2.2≠0 then .inl ((bkL (l.drop (getL l).2.1)).2.2,(getL l).2.1)
 else .inr (repT ((bkL (l.drop (getL l).2.1)).1 + 1) ((getL l).1 / 2 + 4),(getL l).2.1 + (bkL (l.drop (getL l).2.1)).2.1)
theorem getT_num {l:List UInt8} {n k e:Nat} (h:getL l=(n,k,e)) (he:e≠0):getT l=.inl (e,0):=by
 unfold getT;rw [h];rw [if_pos (by exact he)]
theorem getT_zero {l:List UInt8} {k:Nat} (h:getL l=(0,k,0)):getT l=.inl (3,0):=by
 unfold getT;rw [h];rw [if_neg (by simp),if_pos (by rfl),if_pos rfl]
theorem getT_miss {l:List UInt8} {n k:Nat} (h:getL l=(n,k,0)) (h2:n % 2=0) (h0:n≠0) (hl:l.length < k + n / 2):getT l=.inl (7,l.length):=by
 unfold getT;rw [h];rw [if_neg (by simp),if_pos h2,if_neg h0,if_pos hl]
theorem getT_own {l:List UInt8} {n k:Nat} (h:getL l=(n,k,0)) (h2:n % 2=0) (h0:n≠0) (hl:¬ l.length < k + n / 2) :
   getT l=.inr (⟨⟨((l.drop k).take (n / 2)).toArray⟩,0,0⟩,k + n / 2):=by
 unfold getT;rw [h];rw [if_neg (by simp),if_pos h2,if_neg h0,if_neg hl]
theorem getT_big {l:List UInt8} {n k:Nat} (h:getL l=(n,k,0)) (h2:¬ n % 2=0) (hb:63 < n / 2):getT l=.inl (2,0):=by
 unfold getT;rw [h];rw [if_neg (by simp),if_neg h2,if_pos hb]
theorem getT_back {l:List UInt8} {n k m j e:Nat} (h:getL l=(n,k,0)) (h2:¬ n % 2=0) (hb:¬ 63 < n / 2) (hk:bkL (l.drop k)=(m,j,e)) (he:e≠0):getT l=.inl (e,k):=by
 unfold getT;rw [h];rw [if_neg (by simp),if_neg h2,if_neg hb]
 simp only [hk]
 rw [if_pos he]
theorem getT_rep {l:List UInt8} {n k m j:Nat} (h:getL l=(n,k,0)) (h2:¬ n % 2=0) (hb:¬ 63 < n / 2) (hk:bkL (l.drop k)=(m,j,0)):getT l=.inr (repT (m + 1) (n / 2 + 4),k + j):=by
 unfold getT;rw [h];rw [if_neg (by simp),if_neg h2,if_neg hb]
 simp only [hk]
 rw [if_neg (by simp)]
theorem bkL_bad {l:List UInt8} {n k e:Nat} (h:getL l=(n,k,e)) (he:e≠0):bkL l=(0,0,e):=by
 unfold bkL;rw [h];rw [if_pos (by exact he)]
theorem bkL_range {l:List UInt8} {n k:Nat} (h:getL l=(n,k,0)) (hm:1023 < n):bkL l=(0,0,2):=by
 unfold bkL;rw [h];rw [if_neg (by simp),if_pos hm]
theorem bkL_ok {l:List UInt8} {n k:Nat} (h:getL l=(n,k,0)) (hm:¬ 1023 < n):bkL l=(n,k,0):=by
 unfold bkL;rw [h];rw [if_neg (by simp),if_neg hm]
theorem bkL_cases (l:List UInt8):(∃ e,bkL l=(0,0,e)∧e≠0)∨∃ m j,bkL l=(m,j,0)∧getL l=(m,j,0)∧m≤1023:=by
 obtain ⟨n,k,e,h⟩:∃ n k e,getL l=(n,k,e):=⟨_,_,_,rfl⟩
 by_cases he:e=0
 · subst he
   by_cases hm:1023 < n
   · exact .inl ⟨2,bkL_range h hm,by omega⟩
   · exact .inr ⟨n,k,bkL_ok h hm,h,by omega⟩
 · exact .inl ⟨e,bkL_bad h he,he⟩
def fine (t:Tok):Prop :=
 (t.own.size≠0∧t.size=0∧t.back=0)∨(t.own.size=0∧4≤t.size∧t.size≤67∧1≤t.back∧t.back≤1024)
theorem fine_of {t:Tok} {a:Nat} (h:wrongN t a=0):fine t:=by
 rcases wrongN_ok h with ⟨h1,h2,h3,_⟩ | ⟨h1,h2,h3,h4,h5,_,_⟩
 · exact .inl ⟨h1,h2,h3⟩
 · exact .inr ⟨h1,h2,h3,h4,h5⟩
theorem putT_own {t:Tok} (h:t.own.size≠0):putT t=putL (2 * t.own.size) ++ t.own.data.toList:=by unfold putT;rw [if_neg h]
theorem putT_rep {t:Tok} (h:t.own.size=0):putT t=putL (2 * (t.size.toNat - 4) + 1) ++ putL (t.back.toNat - 1):=by unfold putT;rw [if_pos h]
theorem putT_pos (t:Tok):0 < (putT t).length:=by
 unfold putT
 split
 · rw [List.length_append];have:=putL_pos (2 * (t.size.toNat - 4) + 1);omega
 · rw [List.length_append];have:=putL_pos (2 * t.own.size);omega
theorem bs_zero {s:ByteArray} (h:s.size=0):s=⟨#[]⟩:=by
 apply bs_ext
 rw [size_data] at h
 exact List.length_eq_zero_iff.1 h
theorem getT_put (t:Tok) (more:List UInt8) (h:fine t) (hs:t.own.size≤140737488351232):getT (putT t ++ more)=.inr (t,(putT t).length):=by
 obtain ⟨s,b,z⟩:=t
 rcases h with ⟨h1,h2,h3⟩ | ⟨h1,h2,h3,h4,h5⟩
 · simp only at h1 h2 h3 hs
   subst h2 h3
   rw [putT_own h1]
   simp only
   have hg:=getL_put (2 * s.size) (s.data.toList ++ more) (by omega)
   rw [←List.append_assoc] at hg
   have e:(2 * s.size) / 2=s.size:=by omega
   rw [getT_own hg (by omega) (by omega) (by rw [List.length_append,List.length_append,←size_data];omega),e]
   have e2:((putL (2 * s.size) ++ s.data.toList ++ more).drop (putL (2 * s.size)).length).take s.size=s.data.toList:=by
     rw [List.append_assoc,List.drop_left,size_data,List.take_left]
   rw [e2,bs_of,List.length_append,←size_data]
 · simp only at h1 h2 h3 h4 h5
   rw [putT_rep h1]
   simp only
   have hg:=getL_put (2 * (z.toNat - 4) + 1) (putL (b.toNat - 1) ++ more) (by omega)
   rw [←List.append_assoc] at hg
   have hd:(putL (2 * (z.toNat - 4) + 1) ++ putL (b.toNat - 1) ++ more).drop (putL (2 * (z.toNat - 4) + 1)).length=putL (b.toNat - 1) ++ more:=by
     rw [List.append_assoc,List.drop_left]
   have hk:=bkL_ok (getL_put (b.toNat - 1) more (by omega)) (by omega)
   rw [getT_rep hg (by omega) (by omega) (by rw [hd];exact hk),List.length_append]
   have e1:repT (b.toNat - 1 + 1) ((2 * (z.toNat - 4) + 1) / 2 + 4)=⟨s,b,z⟩:=by
     unfold repT
     rw [bs_zero h1]
     congr 1 <;> omega
   rw [e1]
theorem getT_only {l:List UInt8} {t:Tok} {k:Nat} (h:getT l=.inr (t,k)):1≤k∧k≤l.length∧putT t=l.take k∧fine t∧t.own.size≤l.length:=by
 obtain ⟨n,j,e,hg⟩:∃ n k e,getL l=(n,k,e):=⟨_,_,_,rfl⟩
 by_cases he:e=0
 · subst he
   obtain ⟨g1,g2,g3⟩:=getL_only hg
   by_cases h2:n % 2=0
   · by_cases h0:n=0
     · subst h0
       rw [getT_zero hg] at h;cases h
     · by_cases hl:l.length < j + n / 2
       · rw [getT_miss hg h2 h0 hl] at h;cases h
       · rw [getT_own hg h2 h0 hl] at h
         injection h with h
         injection h with ht hk
         subst ht hk
         have hlen:((l.drop j).take (n / 2)).length=n / 2:=by rw [List.length_take,List.length_drop];omega
         have hsz:(⟨((l.drop j).take (n / 2)).toArray⟩:ByteArray).size=n / 2:=by rw [bs_size,hlen]
         refine ⟨by omega,by omega,?_,.inl ⟨by simp only [hsz];omega,rfl,rfl⟩,by simp only [hsz];omega⟩
         rw [putT_own (by simp only [hsz];omega)]
         simp only [hsz]
         rw [show 2 * (n / 2)=n by omega,g3,List.take_add]
   · by_cases hb:63 < n / 2
     · rw [getT_big hg h2 hb] at h;cases h
     · rcases bkL_cases (l.drop j) with ⟨e,hk,he⟩ | ⟨m,i,hk,hm,hm2⟩
       · rw [getT_back hg h2 hb hk he] at h;cases h
       · rw [getT_rep hg h2 hb hk] at h
         injection h with h
         injection h with ht hkk
         subst ht hkk
         obtain ⟨q1,q2,q3⟩:=getL_only hm
         rw [List.length_drop] at q2
         have hz:(repT (m + 1) (n / 2 + 4)).own.size=0:=rfl
         refine ⟨by omega,by omega,?_,.inr ⟨hz,?_,?_,?_,?_⟩,by rw [hz];omega⟩
         · rw [putT_rep hz]
           have e1:(repT (m + 1) (n / 2 + 4)).size.toNat=n / 2 + 4:=by show (((n / 2 + 4:Nat):Int)).toNat=_;omega
           have e2:(repT (m + 1) (n / 2 + 4)).back.toNat=m + 1:=by show (((m + 1:Nat):Int)).toNat=_;omega
           rw [e1,e2,show 2 * (n / 2 + 4 - 4) + 1=n by omega,show m + 1 - 1=m by omega,g3,q3,List.take_add]
         · show (4:Int)≤((n / 2 + 4:Nat):Int);omega
         · show ((n / 2 + 4:Nat):Int)≤67;omega
         · show (1:Int)≤((m + 1:Nat):Int);omega
         · show ((m + 1:Nat):Int)≤1024;omega
 · rw [getT_num hg he] at h;cases h
def rdF (s:List UInt8):Nat→Nat→List Tok→List Nat→(Nat×Nat) ⊕ (List Tok×List Nat)
 | 0,_,l,b=>.inr (l,b)
 | f + 1,a,l,b=>if a < s.length then match getT (s.drop a) with
   | .inl (e,p)=>.inl (e,a + p)
   | .inr (t,k)=>rdF s f (a + k) (l ++ [t]) (b ++ [a]) else .inr (l,b)
theorem rdF_end {s:List UInt8} {f a:Nat} {l:List Tok} {b:List Nat} (h:¬ a < s.length):rdF s f a l b=.inr (l,b):=by
 cases f with
 | zero=>rfl
 | succ f=>rw [rdF,if_neg h]
theorem rdF_bad {s:List UInt8} {f a e p:Nat} {l:List Tok} {b:List Nat} (h:a < s.length) (hg:getT (s.drop a)=.inl (e,p)):rdF s (f + 1) a l b=.inl (e,a + p):=by
 rw [rdF,if_pos h,hg]
theorem rdF_ok {s:List UInt8} {f a k:Nat} {t:Tok} {l:List Tok} {b:List Nat} (h:a < s.length) (hg:getT (s.drop a)=.inr (t,k)):rdF s (f + 1) a l b=rdF s f (a + k) (l ++ [t]) (b ++ [a]):=by
 rw [rdF,if_pos h,hg]
def readF (s:List UInt8):(Nat×Int)×List Tok :=
 match rdF s s.length 0 [] [] with
 | .inl (e,p)=>((e,(p:Int)),[])
 | .inr (l,b)=>if (rightF l 0 0).1=0 then ((0,-1),l) else (((rightF l 0 0).1,((b.getD (rightF l 0 0).2.toNat 0:Nat):Int)),[])
theorem readF_bad {s:List UInt8} {e p:Nat} (h:rdF s s.length 0 [] []=.inl (e,p)):readF s=((e,(p:Int)),[]):=by unfold readF;rw [h]
theorem readF_ok {s:List UInt8} {l:List Tok} {b:List Nat} (h:rdF s s.length 0 [] []=.inr (l,b)) (hr:(rightF l 0 0).1=0):readF s=((0,-1),l):=by unfold readF;rw [h];exact if_pos hr
theorem readF_wrong {s:List UInt8} {l:List Tok} {b:List Nat} (h:rdF s s.length 0 [] []=.inr (l,b)) (hr:¬ (rightF l 0 0).1=0) :
   readF s=(((rightF l 0 0).1,((b.getD (rightF l 0 0).2.toNat 0:Nat):Int)),[]):=by unfold readF;rw [h];exact if_neg hr
theorem rdF_write (s:List UInt8):∀ (m:List Tok) (f a:Nat) (l:List Tok) (b:List Nat),(∀ t∈m,fine t∧t.own.size≤140737488351232)→s.drop a=writeL m→a≤s.length→s.length≤a + f→∃ b',rdF s f a l b=.inr (l ++ m,b'):=by
 intro m
 induction m with
 | nil =>
   intro f a l b _ hd ha _
   have hlen:=congrArg List.length hd
   rw [List.length_drop,writeL_nil,List.length_nil] at hlen
   exact ⟨b,by rw [rdF_end (by omega),List.append_nil]⟩
 | cons t m ih =>
   intro f a l b hm hd ha hf
   rw [writeL_cons] at hd
   have hlen:=congrArg List.length hd
   rw [List.length_drop,List.length_append] at hlen
   have hp:=putT_pos t
   obtain ⟨h1,h2⟩:=hm t (List.mem_cons_self ..)
   cases f with
   | zero=>omega
   | succ f =>
     rw [rdF_ok (by omega) (by rw [hd];exact getT_put t _ h1 h2)]
     obtain ⟨b',hb⟩:=ih f (a + (putT t).length) (l ++ [t]) (b ++ [a]) (fun u hu=>hm u (List.mem_cons_of_mem _ hu)) (by rw [←List.drop_drop,hd,List.drop_left]) (by omega) (by omega)
     exact ⟨b',by rw [hb,List.append_assoc];rfl⟩
theorem right_fine {l:List Tok} {i a:Nat} (h:(rightF l i a).1=0):∀ t∈l,fine t∧t.own.size≤140737488351232:=by
 induction l generalizing i a with
 | nil=>intro t ht;cases ht
 | cons u r ih =>
   obtain ⟨h1,h2⟩:=rightF_head h
   intro t ht
   rcases List.mem_cons.1 ht with rfl | ht
   · refine ⟨fine_of h1,?_⟩
     have:=wrongN_le h1
     unfold lenT at this;omega
   · exact ih h2 t ht
theorem read_write {l:List Tok} (h:(rightF l 0 0).1=0):readF (writeL l)=((0,-1),l):=by
 obtain ⟨b,hb⟩:=rdF_write (writeL l) l (writeL l).length 0 [] [] (right_fine h) rfl (Nat.zero_le _) (by omega)
 rw [List.nil_append] at hb
 exact readF_ok hb h
theorem rdF_only (s:List UInt8):∀ (f a:Nat) (l m:List Tok) (b b':List Nat),a≤s.length→s.length≤a + f→rdF s f a l b=.inr (m,b')→∃ r,m=l ++ r∧writeL r=s.drop a∧∀ t∈r,fine t∧t.own.size≤s.length:=by
 intro f
 induction f with
 | zero =>
   intro a l m b b' ha hf h
   rw [rdF] at h
   injection h with h
   injection h with h1 h2
   exact ⟨[],by rw [←h1,List.append_nil],by rw [List.drop_eq_nil_of_le (by omega)];rfl,fun t ht=>by cases ht⟩
 | succ f ih =>
   intro a l m b b' ha hf h
   by_cases hlt:a < s.length
   · match hg:getT (s.drop a) with
     | .inl (e,p)=>rw [rdF_bad hlt hg] at h;cases h
     | .inr (t,k) =>
       rw [rdF_ok hlt hg] at h
       obtain ⟨h1,h2,h3,h4,h5⟩:=getT_only hg
       rw [List.length_drop] at h2 h5
       obtain ⟨r,hr,hw,hr2⟩:=ih (a + k) (l ++ [t]) m (b ++ [a]) b' (by omega) (by omega) h
       refine ⟨t :: r,by rw [hr,List.append_assoc];rfl,?_,fun u hu=>?_⟩
       · rw [writeL_cons,hw,h3,←List.drop_drop,List.take_append_drop]
       · rcases List.mem_cons.1 hu with rfl | hu
         · exact ⟨h4,by omega⟩
         · exact hr2 u hu
   · rw [rdF_end hlt] at h
     injection h with h
     injection h with h1 h2
     exact ⟨[],by rw [←h1,List.append_nil],by rw [List.drop_eq_nil_of_le (by omega)];rfl,fun t ht=>by cases ht⟩
theorem read_only {s:List UInt8} (h:(readF s).1.1=0):(rightF (readF s).2 0 0).1=0∧writeL (readF s).2=s:=by
 match hr:rdF s s.length 0 [] [] with
 | .inl (e,p) =>
   exfalso
   rw [readF_bad hr] at h
   simp only at h
   have:∀ (f a:Nat) (l:List Tok) (b:List Nat) (e p:Nat),rdF s f a l b=.inl (e,p)→e≠0:=by
     intro f
     induction f with
     | zero=>intro a l b e p h;cases h
     | succ f ih =>
       intro a l b e p h
       by_cases hlt:a < s.length
       · match hg:getT (s.drop a) with
         | .inl (e',p') =>
           rw [rdF_bad hlt hg] at h
           injection h with h
           injection h with h1 h2
           subst h1
           intro h0
           subst h0
           unfold getT at hg
           split at hg
           · rename_i hne;injection hg with hg;injection hg with hg _;exact hne hg
           · split at hg
             · split at hg
               · injection hg with hg;injection hg with hg _;omega
               · split at hg
                 · injection hg with hg;injection hg with hg _;omega
                 · cases hg
             · split at hg
               · injection hg with hg;injection hg with hg _;omega
               · split at hg
                 · rename_i hne;injection hg with hg;injection hg with hg _;exact hne hg
                 · cases hg
         | .inr (t,k)=>rw [rdF_ok hlt hg] at h;exact ih _ _ _ _ _ h
       · rw [rdF_end hlt] at h;cases h
   exact this _ _ _ _ _ _ hr h
 | .inr (l,b) =>
   by_cases hw:(rightF l 0 0).1=0
   · rw [readF_ok hr hw]
     obtain ⟨r,h1,h2,_⟩:=rdF_only s s.length 0 [] l [] b (Nat.zero_le _) (by omega) hr
     rw [List.nil_append] at h1
     subst h1
     exact ⟨hw,h2⟩
   · rw [readF_wrong hr hw] at h
     exact absurd h hw
end Go.Proofs.YtjkbmfpomgcblaaGreatDoor
namespace Go.Proofs.YtjkbmfpomgcblaaGreatDoor
open Go.RowKit
theorem ofF_dropI {l:List Ent} {k:Nat} {t:Ent} (h:l[k]? = some t) (x:Int):ofF (l.drop k) x=if t.rep=x then t.time else ofF (l.drop (k + 1)) x:=by
 obtain ⟨hk,ht⟩:=List.getElem?_eq_some_iff.1 h
 rw [List.drop_eq_getElem_cons hk,ht];rfl
set_option maxRecDepth 100000 in
set_option maxHeartbeats 2000000 in
theorem vofI_any (v:Value) (l:List Ent) (x:Int) (w:World) (hv:IsEnts w v l) (hl:l.length≤9223372036854775807) :
   Calls Tryz.prog 196 #[v,.int .i64 x] w fun r w'=>r=.returned (.int .i64 (ofF l x))∧Below w.heap.size w w':=by
 obtain ⟨a1,c1,rfl,f1⟩:=hv.form
 have F1:=Lib.hid f1
 obtain ⟨n,hn⟩:∃ n,n=l.length:=⟨_,rfl⟩
 rw [←hn] at hl ⊢
 have HN:=Lib.hid hn
 clear hv f1 hn
 go_enter Tryz.func196,Tryz.ntmps196
 go_wp2
 go_loopw [9] (fun i wr=>∃ k:Nat,k≤n∧i=.int .i64 k∧ofF l x=ofF (l.drop k) x∧Below w.heap.size w wr) (fun i _=>n - (intOf i).toNat)
 case atStart=>exact ⟨0,by omega,rfl,rfl,Below.refl _ _⟩
 case round =>
   obtain ⟨k,hk,rfl,heq,hbel⟩:=hrel
   have HEQ:=Lib.hid heq
   have HB:=Lib.hid hbel
   have hzr:=hbel.size
   clear heq hbel
   by_cases hlt:k < n
   · obtain ⟨t, ht⟩ : ∃ t, l[k]? = some t := ⟨l[k]'(by have := HN.out; omega), List.getElem?_eq_getElem _⟩
     obtain ⟨b1,o1,rfl,hb1,p0,p1⟩:=F1.out k t ht
     have hd:=ofF_dropI ht x
     obtain ⟨rep,time⟩:=t
     simp only at p0 p1 hd
     have q0:=(HB.out.cell (p:=⟨b1,o1 + k * 2,none⟩) hb1).trans p0
     have q1:=(HB.out.cell (p:=⟨b1,o1 + k * 2 + 1,none⟩) hb1).trans p1
     by_cases hx:rep=x
     · have HW:Hid (ofF l x=time):=Lib.hid (show ofF l x=time by rw [HEQ.out,hd,if_pos hx])
       clear p0 p1 ht hd
       subst hx
       go_wp2
       go_ret
       exact ⟨by rw [HW.out];rfl,HB.out.alloc hzr _⟩
     · have HW:Hid (ofF l x=ofF (l.drop (k + 1)) x):=Lib.hid (show ofF l x=ofF (l.drop (k + 1)) x by rw [HEQ.out,hd,if_neg hx])
       have bx:(rep == x)=false:=by simpa using hx
       clear p0 p1 ht hd
       go_wp2
       go_roundw
       case rel=>exact ⟨k + 1,by omega,by go_num,HW.out,HB.out.alloc hzr _⟩
       case measure=>simp [intOf];omega
   · have HW:Hid (ofF l x=0):=Lib.hid (show ofF l x=0 by rw [HEQ.out,List.drop_eq_nil_of_le (by have:=HN.out;omega)];rfl)
     go_wp2
     go_ret
     exact ⟨by rw [HW.out];rfl,HB.out⟩
theorem vofI_as (v:Value) (l:List Ent) (x y:Int) (w:World) (hv:IsEnts w v l) (hl:l.length≤9223372036854775807) (h:ofF l x=y) :
   Calls Tryz.prog 196 #[v,.int .i64 x] w fun r w'=>r=.returned (.int .i64 y)∧Below w.heap.size w w':=by
 subst h;exact vofI_any v l x w hv hl
end Go.Proofs.YtjkbmfpomgcblaaGreatDoor
namespace Go.Proofs.YtjkbmfpomgcblaaGreatDoor
open Go.RowKit
set_option maxRecDepth 100000 in
set_option maxHeartbeats 400000 in
theorem pass_any (x:Int) (w:World) (h0:0≤x) (h1:x < 4294967296) :
   Calls Tryz.prog 101 #[.int .u32 x] w fun e w'=>e=.returned (.int .u32 (pass x.toNat:Nat))∧w=w':=by
 obtain ⟨n,rfl⟩:=Int.eq_ofNat_of_zero_le h0
 have hn:n < 4294967296:=by omega
 clear h0 h1
 go_enter Tryz.func101,Tryz.ntmps101
 go_wp2
 go_loop [0,4] (fun s i=>∃ k:Nat,k≤8∧i=.int .i64 k∧s=.int .u32 (stn k n:Nat)) (fun _ i=>8 - (intOf i).toNat)
 case atStart=>exact ⟨0,by omega,rfl,rfl⟩
 case round =>
   obtain ⟨k,hk,rfl,rfl⟩:=hrel
   have hs:=stn_lt k hn
   by_cases hlt:k < 8
   · go_wp2
     · have ht:=and_one_yes hs (by assumption)
       go_round
       case rel=>exact ⟨k + 1,by omega,by go_num,by rw [st_yes hs ht];rfl⟩
       case measure=>simp [intOf];omega
     · have ht:=and_one_no hs (by assumption)
       go_round
       case rel=>exact ⟨k + 1,by omega,by go_num,by rw [st_no ht];rfl⟩
       case measure=>simp [intOf];omega
   · obtain rfl:k=8:=by omega
     go_wp2
     go_ret
     exact ⟨rfl,rfl⟩
end Go.Proofs.YtjkbmfpomgcblaaGreatDoor
namespace Go.Proofs.YtjkbmfpomgcblaaGreatDoor
open Go.ChangeShapes Go.WideShapes Go.ChangeAt Go.RowKit
theorem laidOutE:laidOutB Tryz.prog=true:=by kernel_rfl
instance : Inhabited Ent := ⟨⟨0, 0⟩⟩
theorem two_fields {H:Type} {enc:TypeId×Value→H} {P:Program} {W:World} {spare:Nat→Bool} {held:Bool} {n:Nat} {t:TypeId} {cs:List Value} {x:DataW H×List MemPlace} {p q:Field}
   (ht:P.underlying t=some (.struct #[p,q])) (h1:Go.Deep.oneCellFields P #[p,q]=true) (h3:P.cellsOf t=2)
   (h:DataW.trod enc P W 0 spare held n t cs=some x) :
   ∃ (a b:Value) (u v:DataW H×List MemPlace) (m:Nat),cs=[a,b]∧x.1=.agg [u.1,v.1] ∧
     DataW.trod enc P W 0 spare held m p.type [a]=some u∧DataW.trod enc P W 0 spare held m q.type [b]=some v:=by
 obtain ⟨xs,m,_,hx,hl,hxl,hf⟩:=DataW.trod_struct ht h
 rw [h3] at hl
 have hxl':xs.length=2:=hxl
 match cs,hl with
 | [a,b],_ =>
   match xs,hxl' with
   | [u,v],_ =>
     have one:=Go.Deep.hone_of h1
     have g0:=hf 0 p rfl
     have g1:=hf 1 q rfl
     rw [(one 0 p rfl).1,(one 0 p rfl).2] at g0
     rw [(one 1 q rfl).1,(one 1 q rfl).2] at g1
     exact ⟨a,b,u,v,m,rfl,by rw [hx];rfl,g0,g1⟩
theorem ent_elem {H:Type} {enc:TypeId×Value→H} {W:World} {spare:Nat→Bool} {held:Bool} {n:Nat} {cs:List Value} {x:DataW H×List MemPlace}
   (h:DataW.trod enc Tryz.prog W 0 spare held n 74 cs=some x):∃ t:Ent,cs=entC t:=by
 obtain ⟨a,b,u,v,m,rfl,hx,g0,g1⟩:=two_fields Tryz.underlying74 (by kernel_rfl) (by kernel_rfl) h
 obtain ⟨k,e0,f0,_⟩:=DataW.trod_int Tryz.underlying3 g0
 obtain ⟨z,e1,f1,_⟩:=DataW.trod_int Tryz.underlying3 g1
 have e0':a=.int .i64 k:=List.head_eq_of_cons_eq e0
 have e1':b=.int .i64 z:=List.head_eq_of_cons_eq e1
 exact ⟨⟨k,z⟩,by rw [e0',e1'];rfl⟩
theorem entsArg {H:Type} {enc:TypeId×Value→H} {W:World} {spare:Nat→Bool} {held:Bool} {a0:Option Addr} {len0 cap0 fuel:Nat} {d:DataW H} {p:List MemPlace}
   (hf:DataW.trod enc Tryz.prog W 0 spare held fuel 22 [.slice a0 len0 cap0]=some (d,p)) :
   ∃ l:List Ent,IsEnts W (.slice a0 len0 cap0) l∧l.length=len0∧len0≤cap0∧cap0≤maxLen:=by
 rcases Go.Deep.open_slice Tryz.underlying22 hf with ⟨hcs,_⟩ | ⟨a,ln,cp,m,n,D,Pl,hcs,_,hl,hm,hmm,hx,hi⟩
 · simp only [List.cons.injEq,Value.slice.injEq,and_true] at hcs
   obtain ⟨rfl,rfl,rfl⟩:=hcs
   exact ⟨[],.inl ⟨_,_,rfl,rfl⟩,rfl,Nat.le_refl _,by unfold maxLen;omega⟩
 · simp only [List.cons.injEq,Value.slice.injEq,and_true] at hcs
   obtain ⟨rfl,rfl,rfl⟩:=hcs
   have h3:Tryz.prog.cellsOf 74=2:=by kernel_rfl
   rw [h3] at hi
   have hle:len0≤m:=by rw [hmm];split <;> omega
   obtain ⟨f,hfc⟩:=Go.Deep.choose_lt (n:=len0) (p:=fun i (t:Ent)=>W.cells? 0 (a.add (i * 2)) 2=some (entC t)) (fun i hlt=>by
     obtain ⟨cs',hc,ht⟩:=hi i (by omega)
     obtain ⟨t,h1⟩:=ent_elem ht
     exact ⟨t,by rw [hc,h1]⟩)
   have hll:((List.range len0).map f).length=len0:=by simp
   refine ⟨(List.range len0).map f,?_,hll,hl,hm⟩
   by_cases hz:len0=0
   · subst hz;exact .inl ⟨_,_,rfl,rfl⟩
   · obtain ⟨b,off,spot⟩:=a
     have hcell:∀ i,i < len0→∀ r,r < 2→W.cell? ((⟨b,off,spot⟩:Addr).add (i * 2 + r))=(entC (f i))[r]? := fun i hlt r hr=>by
       obtain ⟨_,_,hat⟩:=World.cells?_some (hfc i hlt)
       rw [←Go.Deep.add_add];exact hat r hr
     have h0:=hcell 0 (by omega) 0 (by omega)
     have hspot:spot=none:=by simpa [Addr.add] using World.cell?_spot (h0.trans rfl)
     subst hspot
     refine .inr ⟨b,off,cap0,by rw [hll],⟨by rw [hll];omega,by rw [hll];omega⟩,block_lt_of_cell (h0.trans rfl),fun j u hj=>?_⟩
     have hjl:j < len0 * 2:=by rw [←hll,←entsC_len];exact (List.getElem?_eq_some_iff.1 hj).1
     have hc:=hcell (j / 2) (by omega) (j % 2) (Nat.mod_lt _ (by decide))
     have hti:((List.range len0).map f)[j / 2]? = some (f (j / 2)):=by
       rw [List.getElem?_map,List.getElem?_range (by omega)];rfl
     have h5:=entsC_at _ _ (j % 2) _ hti (Nat.mod_lt _ (by decide))
     rw [show j / 2 * 2 + j % 2=j by omega] at hc h5
     rw [←h5,hj] at hc
     rw [←hc]
     refine congrArg W.cell? ?_
     unfold Addr.add
     split
     · rename_i e;rw [e];rfl
     · rfl
end Go.Proofs.YtjkbmfpomgcblaaGreatDoor
namespace Go.Proofs.YtjkbmfpomgcblaaGreatDoor
open Go.RowKit
theorem eq_step {l m:List Ent} {k:Nat} (h:l.take k=m.take k) {t u:Ent} (hl:l[k]? = some t) (hm:m[k]? = some u) (e:t=u):l.take (k + 1)=m.take (k + 1):=by
 obtain ⟨h1,h2⟩:=List.getElem?_eq_some_iff.1 hl
 obtain ⟨h3,h4⟩:=List.getElem?_eq_some_iff.1 hm
 rw [List.take_succ_eq_append_getElem h1,List.take_succ_eq_append_getElem h3,h,h2,h4,e]
set_option maxRecDepth 100000 in
set_option maxHeartbeats 1000000 in
theorem equal_entsL (v1 v2:Value) (l m:List Ent) (w:World) (h1:IsEnts w v1 l) (h2:IsEnts w v2 m) (hl:l.length≤9223372036854775807) (hm:m.length≤9223372036854775807) :
   Calls Tryz.prog 53 #[v1,v2] w fun e w'=>e=.returned (.bool (decide (l=m)))∧∃ q,w'=w.drewN q:=by
 obtain ⟨a1,c1,rfl,f1⟩:=h1.form
 obtain ⟨a2,c2,rfl,f2⟩:=h2.form
 have F1:=Lib.hid f1
 have F2:=Lib.hid f2
 obtain ⟨n,hn⟩:∃ n,n=l.length:=⟨_,rfl⟩
 obtain ⟨n2,hn2⟩:∃ n,n=m.length:=⟨_,rfl⟩
 rw [←hn] at hl ⊢
 rw [←hn2] at hm ⊢
 have HN:=Lib.hid hn
 have HN2:=Lib.hid hn2
 clear h1 h2 f1 f2 hn hn2
 by_cases hne:n=n2
 · subst hne
   go_enter Tryz.func53,Tryz.ntmps53
   go_wp2
   go_loopw [13] (fun i wr=>∃ k q:Nat,k≤n∧i=.int .i64 k∧l.take k=m.take k∧wr=w.drewN q) (fun i _=>n - (intOf i).toNat)
   case atStart=>exact ⟨0,0,by omega,rfl,rfl,rfl⟩
   case round =>
     obtain ⟨k,q,hk,rfl,htk,rfl⟩:=hrel
     have HTK:=Lib.hid htk
     clear htk
     by_cases hlt:k < n
     · obtain ⟨t, ht⟩ : ∃ t, l[k]? = some t := ⟨l[k]'(by have := HN.out; omega), List.getElem?_eq_getElem _⟩
       obtain ⟨u, hu⟩ : ∃ u, m[k]? = some u := ⟨m[k]'(by have := HN2.out; omega), List.getElem?_eq_getElem _⟩
       obtain ⟨b1,o1,rfl,_,p0,p1⟩:=F1.out k t ht
       obtain ⟨b2,o2,rfl,_,q0,q1⟩:=F2.out k u hu
       have HTT:=Lib.hid ht
       have HUU:=Lib.hid hu
       clear ht hu
       obtain ⟨r1,t1⟩:=t
       obtain ⟨r2,t2⟩:=u
       simp only at p0 p1 q0 q1
       by_cases hr:r1=r2
       · by_cases ht:t1=t2
         · subst hr ht
           have HST:=Lib.hid (eq_step HTK.out HTT.out HUU.out rfl)
           go_wp2
           go_quiet (fail)
           go_wp2
           go_roundw
           case rel=>exact ⟨k + 1,_,by omega,by go_num,HST.out,rfl⟩
           case measure=>simp [intOf];omega
         · subst hr
           have HE:Hid (decide (l=m)=false):=Lib.hid (show decide (l=m)=false by
             rw [decide_eq_false_iff_not];rintro rfl
             have:=HTT.out.symm.trans HUU.out
             simp at this;exact ht this)
           have x1:(t1 == t2)=false:=by simpa using ht
           have x2:(t1 != t2)=true:=by simpa using ht
           go_wp2
           go_quiet (fail)
           go_wp2
           go_ret
           exact ⟨by rw [HE.out];rfl,by first | exact ⟨_,rfl⟩ | exact ⟨_,by rw [World.drewN_drewN]⟩⟩
       · have HE : Hid (decide (l = m) = false) := Lib.hid (show decide (l = m) = false by
           rw [decide_eq_false_iff_not];rintro rfl
           have:=HTT.out.symm.trans HUU.out
           simp at this;exact hr this.1)
         have x1:(r1 == r2)=false:=by simpa using hr
         have x2:(r1 != r2)=true:=by simpa using hr
         go_wp2
         go_quiet (fail)
         go_wp2
         go_ret
         exact ⟨by rw [HE.out];rfl,by first | exact ⟨_,rfl⟩ | exact ⟨_,by rw [World.drewN_drewN]⟩⟩
     · have HE : Hid (decide (l = m) = true) := Lib.hid (show decide (l = m) = true by
         rw [decide_eq_true_eq]
         have h:=HTK.out
         rw [List.take_of_length_le (by have:=HN.out;omega),List.take_of_length_le (by have:=HN2.out;omega)] at h
         exact h)
       go_wp2
       go_ret
       exact ⟨by rw [HE.out];rfl,by first | exact ⟨_,rfl⟩ | exact ⟨_,by rw [World.drewN_drewN]⟩⟩
 · have HE : Hid (decide (l = m) = false) := Lib.hid (show decide (l = m) = false by
     rw [decide_eq_false_iff_not];rintro rfl;exact hne (HN.out.trans HN2.out.symm))
   have x1:((n:Int) == (n2:Int))=false:=by simp;omega
   have x2:((n:Int) != (n2:Int))=true:=by simp;omega
   rw [HE.out]
   go_enter Tryz.func53,Tryz.ntmps53
   go_wp2
   go_ret
   exact ⟨rfl,0,rfl⟩
theorem equal_asL (v1 v2:Value) (l m:List Ent) (c:Bool) (w:World) (h1:IsEnts w v1 l) (h2:IsEnts w v2 m) (hl:l.length≤9223372036854775807) (hm:m.length≤9223372036854775807) (hc:decide (l=m)=c) :
   Calls Tryz.prog 53 #[v1,v2] w fun e w'=>e=.returned (.bool c)∧∃ q,w'=w.drewN q :=
 (equal_entsL v1 v2 l m w h1 h2 hl hm).mono fun _ _ ⟨h1,h2⟩=>⟨by rw [h1,hc],h2⟩
end Go.Proofs.YtjkbmfpomgcblaaGreatDoor
namespace Go.Proofs.YtjkbmfpomgcblaaGreatDoor
open Go.RowKit
set_option maxRecDepth 100000 in
theorem clone_s (s:ByteArray) (w:World) (hs:s.size≤140737488351232) :
   Calls Tryz.prog 151 #[.string s] w fun e w'=>e=.returned (.string s)∧Below w.heap.size w w':=by
 go_enter Tryz.func151,Tryz.ntmps151
 go_wp2_with fail
 refine (Tryz.stringslite_Clone s _ (by omega)).mono ?_
 rintro r w1 ⟨rfl,hb1⟩
 have HB:=Lib.hid hb1
 clear hb1
 go_wp2
 go_ret
 exact ⟨rfl,HB.out⟩
end Go.Proofs.YtjkbmfpomgcblaaGreatDoor
namespace Go.Proofs.YtjkbmfpomgcblaaGreatDoor
def sumT:List Tok→Nat
 | []=>0
 | t :: r=>lenT t + sumT r
theorem textL_sum (l:List Tok) (b:List UInt8):(textL b l).length=b.length + sumT l:=by
 induction l generalizing b with
 | nil=>rfl
 | cons t r ih=>show (textL (stepT b t) r).length=_;rw [ih,stepT_len,sumT];omega
def cost (l:List Tok):Nat:=(writeL l).length
theorem cost_cons (t:Tok) (r:List Tok):cost (t :: r)=(putT t).length + cost r:=by unfold cost;rw [writeL_cons,List.length_append]
theorem cost_app (l m:List Tok):cost (l ++ m)=cost l + cost m:=by unfold cost;rw [writeL_app,List.length_append]
theorem rep_cost {t:Tok} (h:fine t) (h0:t.own.size=0):1≤(putT t).length∧(putT t).length≤3∧4≤lenT t:=by
 rcases h with ⟨h1,_,_⟩ | ⟨_,h1,h2,h3,h4⟩
 · exact absurd h0 h1
 · refine ⟨putT_pos t,?_,by unfold lenT;omega⟩
   rw [putT_rep h0,List.length_append]
   have e1:=putL_len 1 (2 * (t.size.toNat - 4) + 1) (by omega) (by omega)
   have e2:=putL_len 2 (t.back.toNat - 1) (by omega) (by omega)
   omega
end Go.Proofs.YtjkbmfpomgcblaaGreatDoor
