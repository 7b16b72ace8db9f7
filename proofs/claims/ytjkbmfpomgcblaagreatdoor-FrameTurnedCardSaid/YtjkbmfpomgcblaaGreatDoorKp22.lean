import Derived.Test.YtjkbmfpomgcblaaGreatDoorKp21
namespace Go.Proofs.YtjkbmfpomgcblaaGreatDoor
open Go.RowKit
theorem late_time {q x:Wr} (h:late q x):q.time≤x.time:=by
 unfold late cI orF cmpF wid at h
 simp only at h
 split at h <;> split at h <;> simp_all <;> omega
theorem wE_facts {x:Wr} (h:wE x=0):1≤x.kind∧x.kind≤4∧1≤x.time∧x.time≤1099511627776∧0≤x.rep∧x.rep≤200∧x.key.size≤40∧x.value.size≤300∧(tailL x).length≤320∧WrOk x:=by
 obtain ⟨h1,h2,h3,h4,h5,h6⟩:=wriE_good h
 unfold idOk at h2
 have h2:=of_decide_eq_true h2
 have hn:=numB_size h6
 have hs:=spanB_le h4
 have hv:(valB x.kind x.value).size≤310:=by unfold valB;split <;> first | exact hs | exact Nat.zero_le _
 have ht:(tailL x).length≤320:=by unfold tailL;rw [←size_data,back_t];omega
 have hN : -9223372036854775808≤x.n∧x.n≤9223372036854775807:=by
   unfold fitsN at h6
   by_cases k3:x.kind=3
   · rw [if_pos k3] at h6;simp only [Bool.and_eq_true,decide_eq_true_eq] at h6;omega
   · rw [if_neg k3] at h6
     by_cases k4:x.kind=4
     · rw [if_pos k4] at h6;simp only [Bool.and_eq_true,decide_eq_true_eq] at h6;omega
     · have : x.n = 0 := by
         by_cases hN:x.n=0
         · exact hN
         · exact absurd (.inr ⟨hN,by unfold hasN;rw [decide_eq_false k3,decide_eq_false k4];rfl⟩) h5
       omega
 exact ⟨by omega,by omega,h2.1,h2.2.1,h2.2.2.1,h2.2.2.2,h3,h4,ht,hN.1,hN.2,by omega,by omega⟩
theorem place_bound {h:List Ent} {r:Int} {e:Ent} (he:e∈h) (hr:e.rep=r):placeF h r < h.length:=List.findIdx_lt_length_of_exists ⟨e,he,by simpa using hr⟩
def okRow (h:List Ent) (T:List ByteArray):Int→List Wr→List Nat→Prop
 | _,[],N=>N=[]
 | _,_ :: _,[]=>False
 | ahead,x :: r,n :: N=>(wE x=0∧ahead≤x.time∧placeF h x.rep < h.length∧T[n]? = some x.key)∧okRow h T x.time r N
theorem okRow_of (h:List Ent) (l:List Wr):∀ (T0:List ByteArray) (ahead:Int),(∀ x∈l,wE x=0∧ahead≤x.time∧placeF h x.rep < h.length)→l.Pairwise late→okRow h (tabK T0 (keysW l)) ahead l (atK T0 (keysW l)):=by
 induction l with
 | nil=>intro T0 ahead _ _;rfl
 | cons x r ih =>
   intro T0 ahead hx hp
   rw [List.pairwise_cons] at hp
   obtain ⟨h1,h2,h3⟩:=hx x List.mem_cons_self
   refine ⟨⟨h1,h2,h3,?_⟩,ih (addK T0 x.key) x.time (fun y hy=>⟨(hx y (List.mem_cons_of_mem _ hy)).1,late_time (hp.1 y hy),(hx y (List.mem_cons_of_mem _ hy)).2.2⟩) hp.2⟩
   have hpre:addK T0 x.key <+: tabK T0 (keysW (x :: r)):=tabK_pre (keysW r) (addK T0 x.key)
   have hat:(addK T0 x.key)[idxB T0 x.key]? = some x.key:=by
     by_cases hm:x.key∈T0
     · rw [addK_in hm];exact idxB_get hm
     · rw [addK_new hm,idxB_new hm];simp
   obtain ⟨t,ht⟩:=hpre
   rw [←ht,List.getElem?_append_left (List.getElem?_eq_some_iff.1 hat).1]
   exact hat
theorem right_okRow {f h:List Ent} {l:List Wr} (hr:rightB f h l):okRow h (tabK [] (keysW l)) 0 l (atK [] (keysW l)):=by
 rw [rightB_iff] at hr
 obtain ⟨⟨g1,g2,g3⟩,g4,g5,g6⟩:=hr
 refine okRow_of h l [] 0 (fun x hx=>?_) g6
 obtain ⟨h1,h2⟩:=g5 x hx
 have hf:=wE_facts h1
 refine ⟨h1,by omega,?_⟩
 unfold wiF wid at h2
 simp only [Bool.and_eq_true,decide_eq_true_eq] at h2
 obtain ⟨e,he,h3,_⟩:=ofF_has (l:=h) (x:=x.rep) (by omega)
 exact place_bound he h3
theorem okRow_len {h:List Ent} {T:List ByteArray} (l:List Wr):∀ (ahead:Int) (N:List Nat),okRow h T ahead l N→N.length=l.length:=by
 induction l with
 | nil=>intro ahead N hN;have hN:N=[]:=hN;rw [hN];rfl
 | cons x r ih =>
   intro ahead N hN
   cases N with
   | nil=>exact absurd hN id
   | cons n N=>rw [List.length_cons,List.length_cons,ih _ _ hN.2]
theorem oneB_len {h:List Ent} {ahead:Int} {x:Wr} {n:Nat} (hw:wE x=0) (hp:placeF h x.rep≤1000) (h0:0≤ahead) (hn:n≤1000):(oneB h ahead x n).length≤351:=by
 have hf:=wE_facts hw
 have h1:=putL_le10 (n:=(x.time - ahead).toNat) (by omega)
 have h2:=putL_le10 (n:=placeF h x.rep) (by omega)
 have h3:=putL_le10 (n:=n) (by omega)
 unfold oneB
 simp only [List.length_append,List.length_cons,List.length_nil]
 omega
theorem rowB_len {h:List Ent} {T:List ByteArray} (hh:h.length≤1000) (hT:T.length≤1000) (l:List Wr):∀ (ahead:Int) (N:List Nat),0≤ahead→okRow h T ahead l N→(rowB h ahead l N).length≤l.length * 351:=by
 induction l with
 | nil=>intro ahead N _ _;simp [rowB]
 | cons x r ih =>
   intro ahead N h0 hN
   cases N with
   | nil=>exact absurd hN id
   | cons n N =>
     obtain ⟨⟨h1,h2,h3,h4⟩,h5⟩:=hN
     have hf:=wE_facts h1
     have hn:n < T.length:=(List.getElem?_eq_some_iff.1 h4).1
     have:=oneB_len (n:=n) h1 (show placeF h x.rep≤1000 by omega) h0 (by omega)
     have:=ih x.time N (by omega) h5
     rw [rowB_cons,List.length_append,List.length_cons]
     omega
theorem textsB_len {T:List ByteArray} (h:∀ k∈T,k.size≤40):(textsB T).length≤T.length * 50:=by
 induction T with
 | nil=>simp [textsB]
 | cons k T ih =>
   have h1:=h k List.mem_cons_self
   have h2:=ih fun y hy=>h y (List.mem_cons_of_mem _ hy)
   have h3:=putL_le10 (n:=k.data.toList.length) (by rw [←size_data];omega)
   rw [textsB_cons,List.length_append,List.length_cons]
   unfold spanL
   rw [List.length_append,←size_data]
   rw [←size_data] at h3
   omega
theorem tab_keys {l:List Wr} {k:ByteArray} (hk:k∈tabK [] (keysW l)):∃ x∈l,x.key=k:=by
 rcases tabK_sub _ _ _ hk with h | h
 · cases h
 · exact List.mem_map.1 h
theorem tab_small {f h:List Ent} {l:List Wr} (hr:rightB f h l):(∀ k∈tabK [] (keysW l),k.size≤40)∧(tabK [] (keysW l)).length≤60:=by
 rw [rightB_iff] at hr
 refine ⟨fun k hk=>?_,?_⟩
 · obtain ⟨x,hx,rfl⟩:=tab_keys hk
   have:=wE_facts (hr.2.2.1 x hx).1
   omega
 · have:=tabK_len (keysW l) []
   unfold keysW at this ⊢
   rw [List.length_map] at this
   have:=hr.2.1
   simp at *
   omega
theorem drop_put {s:List UInt8} {a k:Nat} {p:List UInt8} (hp:p=(s.drop a).take k):s.drop a=p ++ s.drop (a + k):=by
 rw [hp,←List.drop_drop];exact (List.take_append_drop _ _).symm
theorem drop_app {s x y:List UInt8} {a:Nat} (h:s.drop a=x ++ y):s.drop (a + x.length)=y:=by
 rw [←List.drop_drop,h,List.drop_left]
theorem fill_tail {T R K:Int} {key val:ByteArray} {N:Int} (h:wriE T R K key val N=0) (more:List UInt8) :
   fillE T R K key ((tailB K val N).data.toList ++ more)=0∧fillN K ((tailB K val N).data.toList ++ more)=(tailB K val N).data.toList.length∧fillV K ((tailB K val N).data.toList ++ more)=val∧(getN K ((tailB K val N).data.toList ++ more)).1=N:=by
 have h1:getN K ((tailB K val N).data.toList ++ more)=(N,(numB K N).size,0):=by
   have:=back_n h ((valB K val).data.toList ++ more)
   unfold tailB;rw [app_data,List.append_assoc];exact this
 have h2:getV K (((tailB K val N).data.toList ++ more).drop (numB K N).size)=(val.data.toList,(valB K val).size,0):=by rw [back_d];exact back_v h more
 have hv:(⟨val.data.toList.toArray⟩:ByteArray)=val:=rfl
 refine ⟨?_,?_,?_,?_⟩
 · rw [fillE_w h1 h2,hv];exact h
 · unfold fillN;rw [h1];simp only;rw [h2];simp only;rw [←size_data,back_t]
 · unfold fillV;rw [h1];simp only;rw [h2]
 · rw [h1]
theorem kindF_cons (c:UInt8) (r:List UInt8):kindF (c :: r)=if c.toNat < 1∨4 < c.toNat then (0,0,1) else (c.toNat,1,0):=rfl
theorem unOne_write {s more:List UInt8} {h:List Ent} {T:List ByteArray} {a n:Nat} {ahead:Int} {x:Wr} (hs:s.drop a=oneB h ahead x n ++ more) (h0:0≤ahead) (hw:wE x=0) (ha:ahead≤x.time) (hp:placeF h x.rep < h.length) (hh:h.length≤1000) (hT:T.length≤1000) (hn:T[n]? = some x.key) :
   unOne s h T a ahead=.inr (a + (oneB h ahead x n).length,x,n):=by
 have hf:=wE_facts hw
 obtain ⟨hnl,hnk⟩:=List.getElem?_eq_some_iff.1 hn
 obtain ⟨p,hpe⟩:∃ p,placeF h x.rep=p:=⟨_,rfl⟩
 have hget:∃ e,h[p]? = some e∧e.rep=x.rep:=by
   have h2:=List.findIdx_getElem (p:=fun e:Ent=>decide (e.rep=x.rep)) (w:=hp)
   refine ⟨_,by rw [←hpe];exact List.getElem?_eq_getElem hp,?_⟩
   show (h[h.findIdx (fun e => decide (e.rep = x.rep))]'hp).rep = x.rep
   simpa using h2
 obtain ⟨e,he,her⟩:=hget
 obtain ⟨t,ht⟩:∃ t,(x.time - ahead).toNat=t:=⟨_,rfl⟩
 have htt:ahead + (t:Int)=x.time:=by omega
 unfold oneB at hs ⊢
 rw [hpe,ht] at hs ⊢
 rw [hpe] at hp
 have hk0:kindF (s.drop a)=(x.kind.toNat,1,0):=by
   rw [hs]
   have hc:(UInt8.ofNat x.kind.toNat).toNat=x.kind.toNat:=toNat_ofNat_lt (by omega)
   refine (kindF_cons (UInt8.ofNat x.kind.toNat) _).trans ?_
   rw [hc,if_neg (by omega)]
 have e1:s.drop (a + 1)=putL t ++ (putL p ++ (putL n ++ (tailL x ++ more))):=by
   have:=drop_app (x:=[UInt8.ofNat x.kind.toNat]) (y:=putL t ++ (putL p ++ (putL n ++ (tailL x ++ more)))) (by rw [hs];simp)
   simpa using this
 have e2:=drop_app e1
 have e3:=drop_app e2
 have e4:=drop_app e3
 have k1:intL (s.drop (a + 1)) (1099511627776 - ahead)=(t,(putL t).length,0):=by rw [e1];exact intL_put _ _ _ (by omega) (by omega)
 have k2:intL (s.drop (a + 1 + (putL t).length)) ((h.length:Int) - 1)=(p,(putL p).length,0):=by rw [e2];exact intL_put _ _ _ (by omega) (by omega)
 have k3:intL (s.drop (a + 1 + (putL t).length + (putL p).length)) ((T.length:Int) - 1)=(n,(putL n).length,0):=by rw [e3];exact intL_put _ _ _ (by omega) (by omega)
 have hrep:(h.getD p ⟨0,0⟩).rep=x.rep:=by rw [List.getD_eq_getElem?_getD,he];exact her
 have hkey:T.getD n ⟨#[]⟩=x.key:=by rw [List.getD_eq_getElem?_getD,hn];rfl
 have hkd:((x.kind.toNat:Nat):Int)=x.kind:=by omega
 obtain ⟨f1,f2,f3,f4⟩:=fill_tail (T:=x.time) (R:=x.rep) (key:=x.key) hw more
 have hok:=unOne_ok (s:=s) (h:=h) (T:=T) hk0 k1 k2 k3 (by rw [hrep,hkey,htt,hkd,e4];exact f1)
 rw [hrep,hkey,htt,hkd,e4] at hok
 unfold tailL at hok ⊢
 rw [f2,f3,f4] at hok
 rw [hok]
 simp only [List.length_append,List.length_cons,List.length_nil]
 refine congrArg Sum.inr (Prod.ext ?_ rfl)
 simp only
 omega
theorem unW_write {s:List UInt8} {h:List Ent} {T:List ByteArray} (hh:h.length≤1000) (hT:T.length≤1000) (l:List Wr):∀ (a:Nat) (ahead:Int) (N:List Nat) (W0:List Wr) (N0:List Nat) (more:List UInt8),0≤ahead→okRow h T ahead l N→s.drop a=rowB h ahead l N ++ more →
   unW s h T l.length a ahead W0 N0=.inr (a + (rowB h ahead l N).length,W0 ++ l,N0 ++ N):=by
 induction l with
 | nil=>intro a ahead N W0 N0 more _ hN _;have hN:N=[]:=hN;subst hN;simp [unW,rowB]
 | cons x r ih =>
   intro a ahead N W0 N0 more h0 hN hs
   cases N with
   | nil=>exact absurd hN id
   | cons n N =>
     obtain ⟨⟨h1,h2,h3,h4⟩,h5⟩:=hN
     have hf:=wE_facts h1
     rw [rowB_cons,List.append_assoc] at hs
     have hone:=unOne_write hs h0 h1 h2 h3 hh hT h4
     rw [List.length_cons,unW_ok hone,ih _ x.time N _ _ more (by omega) h5 (drop_app hs),rowB_cons,List.length_append]
     simp [Nat.add_assoc]
theorem unT_write {s:List UInt8} (T:List ByteArray):∀ (a:Nat) (T0:List ByteArray) (more:List UInt8),(∀ k∈T,k.size≤2000)→s.drop a=textsB T ++ more→unT s T.length a T0=.inr (a + (textsB T).length,T0 ++ T):=by
 induction T with
 | nil=>intro a T0 more _ _;simp [unT,textsB]
 | cons k T ih =>
   intro a T0 more hk hs
   rw [textsB_cons,List.append_assoc] at hs
   have hg:getS (s.drop a)=(k.data.toList,(spanL k.data.toList).length,0):=by rw [hs];exact wspan _ _ (by rw [←size_data];exact hk k List.mem_cons_self)
   rw [List.length_cons,unT_ok hg,ih _ _ more (fun y hy=>hk y (List.mem_cons_of_mem _ hy)) (drop_app hs),textsB_cons,List.length_append]
   simp [Nat.add_assoc]
theorem unb_body {f h:List Ent} {l:List Wr} (hr:rightB f h l) (more:List UInt8) (hl:(bodyL f h l ++ more).length≤20000) :
   unbF (bodyL f h l ++ more)=if more=[] then .inr (f,h,l) else .inl (3,((bodyL f h l).length:Int)):=by
 have hb:=rightB_iff.1 hr
 obtain ⟨⟨g1,g2,g3⟩,g4,g5,g6⟩:=hb
 obtain ⟨t1,t2⟩:=tab_small hr
 have hrow:=right_okRow hr
 obtain ⟨s,hs⟩:∃ s,bodyL f h l ++ more=s:=⟨_,rfl⟩
 obtain ⟨T,hT⟩:∃ T,tabK [] (keysW l)=T:=⟨_,rfl⟩
 obtain ⟨N,hN⟩:∃ N,atK [] (keysW l)=N:=⟨_,rfl⟩
 have hlist:=listF_table (keysW l)
 rw [hT,hN] at hlist
 have hbl:bodyL f h l=vwriteL f ++ (vwriteL h ++ (putL T.length ++ (textsB T ++ (putL l.length ++ rowB h 0 l N)))):=by unfold bodyL;rw [hT,hN];simp
 rw [hT] at t1 t2
 rw [hT,hN] at hrow
 have hlen:(bodyL f h l).length=(vwriteL f).length + (vwriteL h).length + (putL T.length).length + (textsB T).length + (putL l.length).length + (rowB h 0 l N).length:=by rw [hbl];simp only [List.length_append];omega
 have hsl:s.length=(bodyL f h l).length + more.length:=by rw [←hs,List.length_append]
 rw [hs] at hl ⊢
 have hs0:s=vwriteL f ++ (vwriteL h ++ (putL T.length ++ (textsB T ++ (putL l.length ++ (rowB h 0 l N ++ more))))):=by rw [←hs,hbl];simp
 have e0:s.drop 0=vwriteL f ++ (vwriteL h ++ (putL T.length ++ (textsB T ++ (putL l.length ++ (rowB h 0 l N ++ more))))):=by rw [List.drop_zero];exact hs0
 have e1:=drop_app e0
 rw [Nat.zero_add] at e1
 have e2:=drop_app e1
 have e3:=drop_app e2
 have e4:=drop_app e3
 have e5:=drop_app e4
 have k1:vreadF s=(0,(vwriteL f).length,f):=by rw [hs0];exact vread_write g1 _
 have k2:vreadF (s.drop (vwriteL f).length)=(0,(vwriteL h).length,h):=by rw [e1];exact vread_write g2 _
 have k3:intL (s.drop ((vwriteL f).length + (vwriteL h).length)) 60=(T.length,(putL T.length).length,0):=by rw [e2];exact intL_put _ _ _ (by omega) (by omega)
 have k4:=unT_write T _ [] _ (fun k hk=>Nat.le_trans (t1 k hk) (by decide)) e3
 have k5:intL (s.drop ((vwriteL f).length + (vwriteL h).length + (putL T.length).length + (textsB T).length)) 60=(l.length,(putL l.length).length,0):=by rw [e4];exact intL_put _ _ _ (by omega) (by omega)
 have hh16:=g2.1
 have k6:=unW_write (h:=h) (T:=T) (by omega) (by omega) l _ 0 N [] [] more (Int.le_refl _) hrow e5
 simp only [List.nil_append] at k4 k6
 rw [unb_rest (by omega) k1 k2 k3 k4 k5 k6,←hlen]
 by_cases hm:more=[]
 · subst hm
   have hr0:(batF f h l).1=0:=hr
   rw [if_pos rfl,if_neg (by rw [hsl];simp),hlist]
   simp only [ne_eq,not_true_eq_false,if_false,hr0]
 · have:0 < more.length:=List.length_pos_iff.2 hm
   rw [if_neg hm,if_pos (by omega)]
end Go.Proofs.YtjkbmfpomgcblaaGreatDoor
namespace Go.Proofs.YtjkbmfpomgcblaaGreatDoor
open Go.RowKit
theorem errV_ok:errV 0=.nilIface:=rfl
theorem errV_no {e:Nat} (h:e≠0):errV e=.iface 44 (.int .i64 e):=by unfold errV;rw [if_neg h]
def batAt (w:World) (B:Nat) (vf vh vw:Value):Prop :=
 w.cell? ⟨B,0,none⟩=some vf∧w.cell? ⟨B,1,none⟩=some vh∧w.cell? ⟨B,2,none⟩=some vw
theorem batAt.below {w w':World} {B:Nat} {vf vh vw:Value} {m:Nat} (h:batAt w B vf vh vw) (hb:Below m w w') (hm:B < m):batAt w' B vf vh vw :=
 ⟨(hb.cell hm).trans h.1,(hb.cell hm).trans h.2.1,(hb.cell hm).trans h.2.2⟩
theorem batAt_new (w:World) (vf vh vw:Value) (t:TypeId):batAt (w.alloc (.cells #[vf,vh,vw] t)) w.heap.size vf vh vw:=by
 unfold batAt;simp
theorem wright_as (x:Wr) (e:Nat) (w:World) (hk:x.key.size≤140737488351232) (hv:x.value.size≤140737488351232) (he:wE x=e) :
   Calls Tryz.prog 145 #[.agg #[.int .i64 x.time,.int .i64 x.rep,.int .i64 x.kind,.string x.key,.string x.value,.int .i64 x.n]] w fun r w'=>r=.returned (errV e)∧Below w.heap.size w w':=by
 subst he;exact wright_any x.time x.rep x.kind x.key x.value x.n w hk hv
set_option maxRecDepth 100000 in
set_option maxHeartbeats 4000000 in
theorem bwrong_any (vf vh vw:Value) (f h:List Ent) (l:List Wr) (k:Nat) (x:Wr) (p:Option Wr) (e:Nat) (w:World) (hf:IsEnts w vf f) (hh:IsEnts w vh h) (hv:IsWrs w vw l) (hlf:f.length≤9223372036854775807) (hlh:h.length≤9223372036854775807) (hl:l.length≤60)
   (hx:l[k]? = some x) (hp:(k=0∧p=none)∨∃ j q,k=j + 1∧l[j]? = some q∧p=some q) (hok:∀ t∈l,WrOk t) (hg:errT w) (he:bwE f h p x=e) :
   Calls Tryz.prog 91 #[.agg #[vf,vh,vw],.int .i64 (k:Int)] w fun r w'=>r=.returned (.int .i64 (e:Nat))∧Below w.heap.size w w':=by
 have HF:=Lib.hid hf
 have HH:=Lib.hid hh
 have HG:=Lib.hid hg
 have HLF:=Lib.hid hlf
 have HLH:=Lib.hid hlh
 obtain ⟨aw,cw,rfl,fw⟩:=hv.form
 have FW:=Lib.hid fw
 obtain ⟨n,hn⟩:∃ n,n=l.length:=⟨_,rfl⟩
 rw [←hn] at hl ⊢
 have hkn:k < n:=by rw [hn];exact (List.getElem?_eq_some_iff.1 hx).1
 obtain ⟨b1,o1,rfl,hb1,p0,p1,p2,p3,p4,p5⟩:=fw k x hx
 have HOK:=Lib.hid (hok x (List.mem_of_getElem? hx))
 obtain ⟨ew,hew⟩:∃ ew,wE x=ew:=⟨_,rfl⟩
 have HEW:=Lib.hid hew
 have HE:=Lib.hid he
 have HP:=Lib.hid hp
 clear hf hh hg hlf hlh hv fw hn hx hp hok he hew
 go_enter Tryz.func91,Tryz.ntmps91
 go_wp2_with fail
 refine (wright_as x ew _ HOK.out.2.2.1 HOK.out.2.2.2 HEW.out).mono ?_
 rintro r w1 ⟨rfl,hb2⟩
 have hz1:w.heap.size + 1 < w1.heap.size:=by have:=hb2.size;simp at this;omega
 have HZ1:=Lib.hid hz1
 have HBA1:Hid (batAt w1 w.heap.size vf vh (.slice (some ⟨b1,o1,none⟩) n cw)):=Lib.hid (((batAt_new w vf vh (.slice (some ⟨b1,o1,none⟩) n cw) 25).below ((Below.refl _ _).alloc (Nat.le_refl _) _) (by simp)).below hb2 (by simp;omega))
 have HWA1:Hid (wrAt w1 (w.heap.size + 1) x.time x.rep x.kind x.key x.value x.n):=Lib.hid ((by simpa using wrAt_new (w.alloc (.cells #[vf,vh,.slice (some ⟨b1,o1,none⟩) n cw] 25)) x.time x.rep x.kind x.key x.value x.n 59:wrAt _ (w.heap.size + 1) x.time x.rep x.kind x.key x.value x.n).below hb2 (by simp))
 have HB1:Hid (Below w.heap.size w w1):=Lib.hid ((((Below.refl _ _).alloc (Nat.le_refl _) _).alloc (by simp) _).trans (hb2.mono (by simp;omega)))
 clear hb2 p0 p1 p2 p3 p4 p5 hz1
 by_cases h0:ew=0
 · subst h0
   rw [errV_ok]
   have hla:lateO p x∨¬ lateO p x:=Classical.em _
   rcases HP.out with ⟨hk0,hp0⟩ | ⟨j,q,hkj,hq,hpq⟩
   · subst hk0 hp0
     obtain ⟨b,hb⟩:∃ b,wiF (x.time,x.rep) f h=b:=⟨_,rfl⟩
     have HWI:=Lib.hid hb
     have HR:Hid (e=if b=true then 0 else 6):=Lib.hid (by
       rw [←HE.out]
       cases b with
       | true=>rw [bwE_fine (p:=none) HEW.out trivial hb];rfl
       | false=>rw [bwE_state (p:=none) HEW.out trivial hb];rfl)
     clear hb hla
     obtain ⟨c0,c1,c2,c3,c4,c5⟩:=HWA1.out
     obtain ⟨d0,d1,d2⟩:=HBA1.out
     go_wp2
     go_quiet (fail)
     go_wp2_with fail
     refine (within_as x.time x.rep vf vh f h b _ (HF.out.below (below_drewN HB1.out _)) (HH.out.below (below_drewN HB1.out _)) HLF.out HLH.out HWI.out).mono ?_
     rintro r w2 ⟨rfl,hb2⟩
     have HB2:Hid (Below w.heap.size w w2):=(below_drewN HB1.out _).trans (hb2.mono HB1.out.size)
     clear hb2 c0 c1 c2 c3 c4 c5 d0 d1 d2
     cases b with
     | true =>
       go_wp2
       go_ret
       exact ⟨by rw [HR.out];rfl,HB2.out⟩
     | false =>
       go_wp2
       go_ret
       exact ⟨by rw [HR.out];rfl,HB2.out⟩
   · obtain ⟨b2,o2,hbo,_,q0,q1,_⟩:=FW.out j q hq
     simp only [Option.some.injEq,Addr.mk.injEq,and_true] at hbo
     obtain ⟨rfl,rfl⟩:=hbo
     have r0:=(HB1.out.cell (p:=⟨b1,o1 + j * 6,none⟩) hb1).trans q0
     have r1:=(HB1.out.cell (p:=⟨b1,o1 + j * 6 + 1,none⟩) hb1).trans q1
     have HK:=Lib.hid hkj
     have hj1:(k:Int) - 1=(j:Int):=by omega
     have hj2:IntKind.i64.wrap ((k:Int) - 1)=(j:Int):=by rw [hj1];exact IntWalk.i64_in _ (by omega)
     have hj3:IntKind.i64.wrap (j:Int)=(j:Int):=IntWalk.i64_in _ (by omega)
     have hk0:(0:Int) < (k:Int):=by omega
     have z1:0 < k:=by omega
     have z2:decide (0 < k)=true:=by simp;omega
     have z3:decide ((0:Int) < (k:Int))=true:=by simp;omega
     have hjn:(j:Int) < (n:Int):=by omega
     have hjn':j < n:=by omega
     have hj0:(0:Int)≤(j:Int):=by omega
     obtain ⟨c,hc⟩:∃ c,cI (x.time,x.rep) (q.time,q.rep)=c:=⟨_,rfl⟩
     have HC:=Lib.hid hc
     have hc3:c=-1∨c=0∨c=1:=by rw [←hc];exact cI_three _ _ _ _
     obtain ⟨c0,c1,c2,c3,c4,c5⟩:=HWA1.out
     obtain ⟨d0,d1,d2⟩:=HBA1.out
     subst hpq
     clear q0 q1 hq hkj hc hla
     have hb1':b1 < w1.heap.size:=Nat.lt_of_lt_of_le hb1 HB1.out.size
     have k1:w1.cell? ⟨w.heap.size + 1,0,none⟩=some (.int .i64 x.time)∧w1.cell? ⟨w.heap.size + 1,1,none⟩=some (.int .i64 x.rep)∧w1.cell? ⟨w.heap.size,2,none⟩=some (.slice (some ⟨b1,o1,none⟩) n cw)∧w1.cell? ⟨b1,o1 + j * 6,none⟩=some (.int .i64 q.time)∧w1.cell? ⟨b1,o1 + j * 6 + 1,none⟩=some (.int .i64 q.rep):=⟨c0,c1,d2,r0,r1⟩
     by_cases hcl:c=1
     · subst hcl
       obtain ⟨b,hb⟩:∃ b,wiF (x.time,x.rep) f h=b:=⟨_,rfl⟩
       have HWI:=Lib.hid hb
       have HR:Hid (e=if b=true then 0 else 6):=Lib.hid (by
         rw [←HE.out]
         cases b with
         | true=>rw [bwE_fine (p:=some q) HEW.out HC.out hb];rfl
         | false=>rw [bwE_state (p:=some q) HEW.out HC.out hb];rfl)
       clear hb hc3
       go_wp2
       go_region_held3 (fun w'=>w'.cell? ⟨w.heap.size + 1,0,none⟩=some (.int .i64 x.time)∧w'.cell? ⟨w.heap.size + 1,1,none⟩=some (.int .i64 x.rep)∧w'.cell? ⟨w.heap.size,2,none⟩=some (.slice (some ⟨b1,o1,none⟩) n cw)∧w'.cell? ⟨b1,o1 + j * 6,none⟩=some (.int .i64 q.time)∧w'.cell? ⟨b1,o1 + j * 6 + 1,none⟩=some (.int .i64 q.rep)) (first | exact k1 | exact k2 | fail) (first | (go_at_call 146;((with_reducible refine (idcmp_as x.time x.rep q.time q.rep 1 _ HC.out).mono ?_);rintro r w2 ⟨rfl,hb2⟩;have HB2:Hid (Below w1.heap.size w1 w2):=Lib.hid (undrew3 hb2);have k2:w2.cell? ⟨w.heap.size + 1,0,none⟩=some (.int .i64 x.time)∧w2.cell? ⟨w.heap.size + 1,1,none⟩=some (.int .i64 x.rep)∧w2.cell? ⟨w.heap.size,2,none⟩=some (.slice (some ⟨b1,o1,none⟩) n cw)∧w2.cell? ⟨b1,o1 + j * 6,none⟩=some (.int .i64 q.time)∧w2.cell? ⟨b1,o1 + j * 6 + 1,none⟩=some (.int .i64 q.rep):=⟨(HB2.out.cell HZ1.out).trans c0,(HB2.out.cell HZ1.out).trans c1,(HB2.out.cell (Nat.lt_of_succ_lt HZ1.out)).trans d2,(HB2.out.cell hb1').trans r0,(HB2.out.cell hb1').trans r1⟩;clear hb2)) | fail)
       obtain ⟨e0,e1,e2,e3,e4⟩:=k2
       have g0:=(HB2.out.cell (p:=⟨w.heap.size,0,none⟩) (Nat.lt_of_succ_lt HZ1.out)).trans d0
       have g1:=(HB2.out.cell (p:=⟨w.heap.size,1,none⟩) (Nat.lt_of_succ_lt HZ1.out)).trans d1
       go_wp2_with fail
       have HB3:Hid (Below w.heap.size w w2):=HB1.out.trans (HB2.out.mono HB1.out.size)
       refine (within_as x.time x.rep vf vh f h b _ (HF.out.below HB3.out) (HH.out.below HB3.out) HLF.out HLH.out HWI.out).mono ?_
       rintro r w3 ⟨rfl,hb3⟩
       have HB4:Hid (Below w.heap.size w w3):=HB3.out.trans (hb3.mono HB3.out.size)
       clear hb3 k1 e0 e1 e2 e3 e4 g0 g1 c0 c1 c2 c3 c4 c5 d0 d1 d2
       cases b with
       | true =>
         go_wp2
         go_ret
         exact ⟨by rw [HR.out];rfl,HB4.out⟩
       | false =>
         go_wp2
         go_ret
         exact ⟨by rw [HR.out];rfl,HB4.out⟩
     · have HR:Hid (e=10):=Lib.hid (by rw [←HE.out,bwE_order (p:=some q) HEW.out (fun hl=>hcl (HC.out.symm.trans hl))])
       have y1:c≤0:=by omega
       have y2:decide (c≤0)=true:=by simp;omega
       clear hc3 hcl
       go_wp2
       go_region_held3 (fun w'=>w'.cell? ⟨w.heap.size + 1,0,none⟩=some (.int .i64 x.time)∧w'.cell? ⟨w.heap.size + 1,1,none⟩=some (.int .i64 x.rep)∧w'.cell? ⟨w.heap.size,2,none⟩=some (.slice (some ⟨b1,o1,none⟩) n cw)∧w'.cell? ⟨b1,o1 + j * 6,none⟩=some (.int .i64 q.time)∧w'.cell? ⟨b1,o1 + j * 6 + 1,none⟩=some (.int .i64 q.rep)) (first | exact k1 | exact k2 | fail) (first | (go_at_call 146;((with_reducible refine (idcmp_as x.time x.rep q.time q.rep c _ HC.out).mono ?_);rintro r w2 ⟨rfl,hb2⟩;have HB2:Hid (Below w1.heap.size w1 w2):=Lib.hid (undrew3 hb2);have k2:w2.cell? ⟨w.heap.size + 1,0,none⟩=some (.int .i64 x.time)∧w2.cell? ⟨w.heap.size + 1,1,none⟩=some (.int .i64 x.rep)∧w2.cell? ⟨w.heap.size,2,none⟩=some (.slice (some ⟨b1,o1,none⟩) n cw)∧w2.cell? ⟨b1,o1 + j * 6,none⟩=some (.int .i64 q.time)∧w2.cell? ⟨b1,o1 + j * 6 + 1,none⟩=some (.int .i64 q.rep):=⟨(HB2.out.cell HZ1.out).trans c0,(HB2.out.cell HZ1.out).trans c1,(HB2.out.cell (Nat.lt_of_succ_lt HZ1.out)).trans d2,(HB2.out.cell hb1').trans r0,(HB2.out.cell hb1').trans r1⟩;clear hb2)) | fail)
       go_wp2
       go_ret
       exact ⟨by rw [HR.out];rfl,HB1.out.trans (HB2.out.mono HB1.out.size)⟩
 · have HR:Hid (e=ew):=Lib.hid (by rw [←HE.out,bwE_w HEW.out h0])
   rw [errV_no h0]
   go_wp2_with fail
   refine (tell_err _ (ew:Int) _ (HG.out.below HB1.out) (.inl rfl)).mono ?_
   rintro r w2 ⟨rfl,hb2⟩
   have HB2:Hid (Below w.heap.size w w2):=HB1.out.trans (hb2.mono HB1.out.size)
   clear hb2
   go_wp2
   go_ret
   exact ⟨by rw [HR.out];rfl,HB2.out⟩
end Go.Proofs.YtjkbmfpomgcblaaGreatDoor
