import Derived.Test.YtgfinhehgfbdgaaGreatDoorKa31
import Derived.Test.YtgfinhehgfbdgaaGreatDoorKa23
import Derived.Test.YtgfinhehgfbdgaaGreatDoorKa28
import Derived.Test.YtgfinhehgfbdgaaGreatDoorKa04
import Derived.Deep.RegionHeld3
import Derived.WalkLawsBesides
import Derived.Test.YtgfinhehgfbdgaaGreatDoorKa30
import Derived.Test.YtgfinhehgfbdgaaGreatDoorKa27
import Derived.Test.YtgfinhehgfbdgaaGreatDoorKa18
import Derived.Test.YtgfinhehgfbdgaaGreatDoorKa05
import Derived.Test.YtgfinhehgfbdgaaGreatDoorKa01
import Derived.Test.YtgfinhehgfbdgaaGreatDoorProg
import Derived.WalkKit
import Derived.Handy
import Derived.KernelRfl
import Derived.Below
import Derived.Defers
import Derived.Recover
import Derived.Lib.Hide
import Derived.Outline
import Derived.RegionTactic
import Derived.Deep.LoopGhost
import Derived.WalkSpells
namespace Go.Proofs.YtgfinhehgfbdgaaGreatDoor
open Go.RowKit
theorem late_time {q x:Wr} (h:late q x):q.time≤x.time:=by
 unfold late cI orF cmpF wid at h
 simp only at h
 split at h <;> split at h <;> simp_all <;> omega
theorem wE_facts {x:Wr} (h:wE x=0):1≤x.kind∧x.kind≤4∧1≤x.time∧x.time≤1099511627776∧0≤x.rep∧x.rep≤200∧x.key.size≤40∧x.value.size≤300∧(tailL x).length≤320∧WrOk x:=by
 obtain ⟨h1,h2,h3,h4,h5,h6⟩:=wriE_good h
 unfold idOk at h2
 have h2:=of_decide_eq_true h2
 have hn:=numB_size h6
 have hs:=spanB_le h4
 have hv:(valB x.kind x.value).size≤310:=by unfold valB;split <;> first | exact hs | exact Nat.zero_le _
 have ht:(tailL x).length≤320:=by unfold tailL;rw [←size_data,back_t];omega
 have hN : -9223372036854775808≤x.n∧x.n≤9223372036854775807:=by
   unfold fitsN at h6
   by_cases k3:x.kind=3
   · rw [if_pos k3] at h6;simp only [Bool.and_eq_true,decide_eq_true_eq] at h6;omega
   · rw [if_neg k3] at h6
     by_cases k4:x.kind=4
     · rw [if_pos k4] at h6;simp only [Bool.and_eq_true,decide_eq_true_eq] at h6;omega
     · have : x.n = 0 := by
         by_cases hN:x.n=0
         · exact hN
         · exact absurd (.inr ⟨hN,by unfold hasN;rw [decide_eq_false k3,decide_eq_false k4];rfl⟩) h5
       omega
 exact ⟨by omega,by omega,h2.1,h2.2.1,h2.2.2.1,h2.2.2.2,h3,h4,ht,hN.1,hN.2,by omega,by omega⟩
theorem place_bound {h:List Ent} {r:Int} {e:Ent} (he:e∈h) (hr:e.rep=r):placeF h r < h.length:=List.findIdx_lt_length_of_exists ⟨e,he,by simpa using hr⟩
def okRow (h:List Ent) (T:List ByteArray):Int→List Wr→List Nat→Prop
 | _,[],N=>N=[]
 | _,_ :: _,[]=>False
 | ahead,x :: r,n :: N=>(wE x=0∧ahead≤x.time∧placeF h x.rep < h.length∧T[n]? = some x.key)∧okRow h T x.time r N
theorem okRow_of (h:List Ent) (l:List Wr):∀ (T0:List ByteArray) (ahead:Int),(∀ x∈l,wE x=0∧ahead≤x.time∧placeF h x.rep < h.length)→l.Pairwise late→okRow h (tabK T0 (keysW l)) ahead l (atK T0 (keysW l)):=by
 induction l with
 | nil=>intro T0 ahead _ _;rfl
 | cons x r ih =>
   intro T0 ahead hx hp
   rw [List.pairwise_cons] at hp
   obtain ⟨h1,h2,h3⟩:=hx x List.mem_cons_self
   refine ⟨⟨h1,h2,h3,?_⟩,ih (addK T0 x.key) x.time (fun y hy=>⟨(hx y (List.mem_cons_of_mem _ hy)).1,late_time (hp.1 y hy),(hx y (List.mem_cons_of_mem _ hy)).2.2⟩) hp.2⟩
   have hpre:addK T0 x.key <+: tabK T0 (keysW (x :: r)):=tabK_pre (keysW r) (addK T0 x.key)
   have hat:(addK T0 x.key)[idxB T0 x.key]? = some x.key:=by
     by_cases hm:x.key∈T0
     · rw [addK_in hm];exact idxB_get hm
     · rw [addK_new hm,idxB_new hm];simp
   obtain ⟨t,ht⟩:=hpre
   rw [←ht,List.getElem?_append_left (List.getElem?_eq_some_iff.1 hat).1]
   exact hat
theorem right_okRow {f h:List Ent} {l:List Wr} (hr:rightB f h l):okRow h (tabK [] (keysW l)) 0 l (atK [] (keysW l)):=by
 rw [rightB_iff] at hr
 obtain ⟨⟨g1,g2,g3⟩,g4,g5,g6⟩:=hr
 refine okRow_of h l [] 0 (fun x hx=>?_) g6
 obtain ⟨h1,h2⟩:=g5 x hx
 have hf:=wE_facts h1
 refine ⟨h1,by omega,?_⟩
 unfold wiF wid at h2
 simp only [Bool.and_eq_true,decide_eq_true_eq] at h2
 obtain ⟨e,he,h3,_⟩:=ofF_has (l:=h) (x:=x.rep) (by omega)
 exact place_bound he h3
theorem okRow_len {h:List Ent} {T:List ByteArray} (l:List Wr):∀ (ahead:Int) (N:List Nat),okRow h T ahead l N→N.length=l.length:=by
 induction l with
 | nil=>intro ahead N hN;have hN:N=[]:=hN;rw [hN];rfl
 | cons x r ih =>
   intro ahead N hN
   cases N with
   | nil=>exact absurd hN id
   | cons n N=>rw [List.length_cons,List.length_cons,ih _ _ hN.2]
theorem oneB_len {h:List Ent} {ahead:Int} {x:Wr} {n:Nat} (hw:wE x=0) (hp:placeF h x.rep≤1000) (h0:0≤ahead) (hn:n≤1000):(oneB h ahead x n).length≤351:=by
 have hf:=wE_facts hw
 have h1:=putL_le10 (n:=(x.time - ahead).toNat) (by omega)
 have h2:=putL_le10 (n:=placeF h x.rep) (by omega)
 have h3:=putL_le10 (n:=n) (by omega)
 unfold oneB
 simp only [List.length_append,List.length_cons,List.length_nil]
 omega
theorem rowB_len {h:List Ent} {T:List ByteArray} (hh:h.length≤1000) (hT:T.length≤1000) (l:List Wr):∀ (ahead:Int) (N:List Nat),0≤ahead→okRow h T ahead l N→(rowB h ahead l N).length≤l.length * 351:=by
 induction l with
 | nil=>intro ahead N _ _;simp [rowB]
 | cons x r ih =>
   intro ahead N h0 hN
   cases N with
   | nil=>exact absurd hN id
   | cons n N =>
     obtain ⟨⟨h1,h2,h3,h4⟩,h5⟩:=hN
     have hf:=wE_facts h1
     have hn:n < T.length:=(List.getElem?_eq_some_iff.1 h4).1
     have:=oneB_len (n:=n) h1 (show placeF h x.rep≤1000 by omega) h0 (by omega)
     have:=ih x.time N (by omega) h5
     rw [rowB_cons,List.length_append,List.length_cons]
     omega
theorem textsB_len {T:List ByteArray} (h:∀ k∈T,k.size≤40):(textsB T).length≤T.length * 50:=by
 induction T with
 | nil=>simp [textsB]
 | cons k T ih =>
   have h1:=h k List.mem_cons_self
   have h2:=ih fun y hy=>h y (List.mem_cons_of_mem _ hy)
   have h3:=putL_le10 (n:=k.data.toList.length) (by rw [←size_data];omega)
   rw [textsB_cons,List.length_append,List.length_cons]
   unfold spanL
   rw [List.length_append,←size_data]
   rw [←size_data] at h3
   omega
theorem tab_keys {l:List Wr} {k:ByteArray} (hk:k∈tabK [] (keysW l)):∃ x∈l,x.key=k:=by
 rcases tabK_sub _ _ _ hk with h | h
 · cases h
 · exact List.mem_map.1 h
theorem tab_small {f h:List Ent} {l:List Wr} (hr:rightB f h l):(∀ k∈tabK [] (keysW l),k.size≤40)∧(tabK [] (keysW l)).length≤60:=by
 rw [rightB_iff] at hr
 refine ⟨fun k hk=>?_,?_⟩
 · obtain ⟨x,hx,rfl⟩:=tab_keys hk
   have:=wE_facts (hr.2.2.1 x hx).1
   omega
 · have:=tabK_len (keysW l) []
   unfold keysW at this ⊢
   rw [List.length_map] at this
   have:=hr.2.1
   simp at *
   omega
theorem drop_put {s:List UInt8} {a k:Nat} {p:List UInt8} (hp:p=(s.drop a).take k):s.drop a=p ++ s.drop (a + k):=by
 rw [hp,←List.drop_drop];exact (List.take_append_drop _ _).symm
theorem drop_app {s x y:List UInt8} {a:Nat} (h:s.drop a=x ++ y):s.drop (a + x.length)=y:=by
 rw [←List.drop_drop,h,List.drop_left]
theorem fill_tail {T R K:Int} {key val:ByteArray} {N:Int} (h:wriE T R K key val N=0) (more:List UInt8) :
   fillE T R K key ((tailB K val N).data.toList ++ more)=0∧fillN K ((tailB K val N).data.toList ++ more)=(tailB K val N).data.toList.length∧fillV K ((tailB K val N).data.toList ++ more)=val∧(getN K ((tailB K val N).data.toList ++ more)).1=N:=by
 have h1:getN K ((tailB K val N).data.toList ++ more)=(N,(numB K N).size,0):=by
   have:=back_n h ((valB K val).data.toList ++ more)
   unfold tailB;rw [app_data,List.append_assoc];exact this
 have h2:getV K (((tailB K val N).data.toList ++ more).drop (numB K N).size)=(val.data.toList,(valB K val).size,0):=by rw [back_d];exact back_v h more
 have hv:(⟨val.data.toList.toArray⟩:ByteArray)=val:=rfl
 refine ⟨?_,?_,?_,?_⟩
 · rw [fillE_w h1 h2,hv];exact h
 · unfold fillN;rw [h1];simp only;rw [h2];simp only;rw [←size_data,back_t]
 · unfold fillV;rw [h1];simp only;rw [h2]
 · rw [h1]
theorem kindF_cons (c:UInt8) (r:List UInt8):kindF (c :: r)=if c.toNat < 1∨4 < c.toNat then (0,0,1) else (c.toNat,1,0):=rfl
theorem unOne_write {s more:List UInt8} {h:List Ent} {T:List ByteArray} {a n:Nat} {ahead:Int} {x:Wr} (hs:s.drop a=oneB h ahead x n ++ more) (h0:0≤ahead) (hw:wE x=0) (ha:ahead≤x.time) (hp:placeF h x.rep < h.length) (hh:h.length≤1000) (hT:T.length≤1000) (hn:T[n]? = some x.key) :
   unOne s h T a ahead=.inr (a + (oneB h ahead x n).length,x,n):=by
 have hf:=wE_facts hw
 obtain ⟨hnl,hnk⟩:=List.getElem?_eq_some_iff.1 hn
 obtain ⟨p,hpe⟩:∃ p,placeF h x.rep=p:=⟨_,rfl⟩
 have hget:∃ e,h[p]? = some e∧e.rep=x.rep:=by
   have h2:=List.findIdx_getElem (p:=fun e:Ent=>decide (e.rep=x.rep)) (w:=hp)
   refine ⟨_,by rw [←hpe];exact List.getElem?_eq_getElem hp,?_⟩
   show (h[h.findIdx (fun e => decide (e.rep = x.rep))]'hp).rep = x.rep
   simpa using h2
 obtain ⟨e,he,her⟩:=hget
 obtain ⟨t,ht⟩:∃ t,(x.time - ahead).toNat=t:=⟨_,rfl⟩
 have htt:ahead + (t:Int)=x.time:=by omega
 unfold oneB at hs ⊢
 rw [hpe,ht] at hs ⊢
 rw [hpe] at hp
 have hk0:kindF (s.drop a)=(x.kind.toNat,1,0):=by
   rw [hs]
   have hc:(UInt8.ofNat x.kind.toNat).toNat=x.kind.toNat:=toNat_ofNat_lt (by omega)
   refine (kindF_cons (UInt8.ofNat x.kind.toNat) _).trans ?_
   rw [hc,if_neg (by omega)]
 have e1:s.drop (a + 1)=putL t ++ (putL p ++ (putL n ++ (tailL x ++ more))):=by
   have:=drop_app (x:=[UInt8.ofNat x.kind.toNat]) (y:=putL t ++ (putL p ++ (putL n ++ (tailL x ++ more)))) (by rw [hs];simp)
   simpa using this
 have e2:=drop_app e1
 have e3:=drop_app e2
 have e4:=drop_app e3
 have k1:intL (s.drop (a + 1)) (1099511627776 - ahead)=(t,(putL t).length,0):=by rw [e1];exact intL_put _ _ _ (by omega) (by omega)
 have k2:intL (s.drop (a + 1 + (putL t).length)) ((h.length:Int) - 1)=(p,(putL p).length,0):=by rw [e2];exact intL_put _ _ _ (by omega) (by omega)
 have k3:intL (s.drop (a + 1 + (putL t).length + (putL p).length)) ((T.length:Int) - 1)=(n,(putL n).length,0):=by rw [e3];exact intL_put _ _ _ (by omega) (by omega)
 have hrep:(h.getD p ⟨0,0⟩).rep=x.rep:=by rw [List.getD_eq_getElem?_getD,he];exact her
 have hkey:T.getD n ⟨#[]⟩=x.key:=by rw [List.getD_eq_getElem?_getD,hn];rfl
 have hkd:((x.kind.toNat:Nat):Int)=x.kind:=by omega
 obtain ⟨f1,f2,f3,f4⟩:=fill_tail (T:=x.time) (R:=x.rep) (key:=x.key) hw more
 have hok:=unOne_ok (s:=s) (h:=h) (T:=T) hk0 k1 k2 k3 (by rw [hrep,hkey,htt,hkd,e4];exact f1)
 rw [hrep,hkey,htt,hkd,e4] at hok
 unfold tailL at hok ⊢
 rw [f2,f3,f4] at hok
 rw [hok]
 simp only [List.length_append,List.length_cons,List.length_nil]
 refine congrArg Sum.inr (Prod.ext ?_ rfl)
 simp only
 omega
theorem unW_write {s:List UInt8} {h:List Ent} {T:List ByteArray} (hh:h.length≤1000) (hT:T.length≤1000) (l:List Wr):∀ (a:Nat) (ahead:Int) (N:List Nat) (W0:List Wr) (N0:List Nat) (more:List UInt8),0≤ahead→okRow h T ahead l N→s.drop a=rowB h ahead l N ++ more →
   unW s h T l.length a ahead W0 N0=.inr (a + (rowB h ahead l N).length,W0 ++ l,N0 ++ N):=by
 induction l with
 | nil=>intro a ahead N W0 N0 more _ hN _;have hN:N=[]:=hN;subst hN;simp [unW,rowB]
 | cons x r ih =>
   intro a ahead N W0 N0 more h0 hN hs
   cases N with
   | nil=>exact absurd hN id
   | cons n N =>
     obtain ⟨⟨h1,h2,h3,h4⟩,h5⟩:=hN
     have hf:=wE_facts h1
     rw [rowB_cons,List.append_assoc] at hs
     have hone:=unOne_write hs h0 h1 h2 h3 hh hT h4
     rw [List.length_cons,unW_ok hone,ih _ x.time N _ _ more (by omega) h5 (drop_app hs),rowB_cons,List.length_append]
     simp [Nat.add_assoc]
theorem unT_write {s:List UInt8} (T:List ByteArray):∀ (a:Nat) (T0:List ByteArray) (more:List UInt8),(∀ k∈T,k.size≤2000)→s.drop a=textsB T ++ more→unT s T.length a T0=.inr (a + (textsB T).length,T0 ++ T):=by
 induction T with
 | nil=>intro a T0 more _ _;simp [unT,textsB]
 | cons k T ih =>
   intro a T0 more hk hs
   rw [textsB_cons,List.append_assoc] at hs
   have hg:getS (s.drop a)=(k.data.toList,(spanL k.data.toList).length,0):=by rw [hs];exact wspan _ _ (by rw [←size_data];exact hk k List.mem_cons_self)
   rw [List.length_cons,unT_ok hg,ih _ _ more (fun y hy=>hk y (List.mem_cons_of_mem _ hy)) (drop_app hs),textsB_cons,List.length_append]
   simp [Nat.add_assoc]
theorem unb_body {f h:List Ent} {l:List Wr} (hr:rightB f h l) (more:List UInt8) (hl:(bodyL f h l ++ more).length≤20000) :
   unbF (bodyL f h l ++ more)=if more=[] then .inr (f,h,l) else .inl (3,((bodyL f h l).length:Int)):=by
 have hb:=rightB_iff.1 hr
 obtain ⟨⟨g1,g2,g3⟩,g4,g5,g6⟩:=hb
 obtain ⟨t1,t2⟩:=tab_small hr
 have hrow:=right_okRow hr
 obtain ⟨s,hs⟩:∃ s,bodyL f h l ++ more=s:=⟨_,rfl⟩
 obtain ⟨T,hT⟩:∃ T,tabK [] (keysW l)=T:=⟨_,rfl⟩
 obtain ⟨N,hN⟩:∃ N,atK [] (keysW l)=N:=⟨_,rfl⟩
 have hlist:=listF_table (keysW l)
 rw [hT,hN] at hlist
 have hbl:bodyL f h l=vwriteL f ++ (vwriteL h ++ (putL T.length ++ (textsB T ++ (putL l.length ++ rowB h 0 l N)))):=by unfold bodyL;rw [hT,hN];simp
 rw [hT] at t1 t2
 rw [hT,hN] at hrow
 have hlen:(bodyL f h l).length=(vwriteL f).length + (vwriteL h).length + (putL T.length).length + (textsB T).length + (putL l.length).length + (rowB h 0 l N).length:=by rw [hbl];simp only [List.length_append];omega
 have hsl:s.length=(bodyL f h l).length + more.length:=by rw [←hs,List.length_append]
 rw [hs] at hl ⊢
 have hs0:s=vwriteL f ++ (vwriteL h ++ (putL T.length ++ (textsB T ++ (putL l.length ++ (rowB h 0 l N ++ more))))):=by rw [←hs,hbl];simp
 have e0:s.drop 0=vwriteL f ++ (vwriteL h ++ (putL T.length ++ (textsB T ++ (putL l.length ++ (rowB h 0 l N ++ more))))):=by rw [List.drop_zero];exact hs0
 have e1:=drop_app e0
 rw [Nat.zero_add] at e1
 have e2:=drop_app e1
 have e3:=drop_app e2
 have e4:=drop_app e3
 have e5:=drop_app e4
 have k1:vreadF s=(0,(vwriteL f).length,f):=by rw [hs0];exact vread_write g1 _
 have k2:vreadF (s.drop (vwriteL f).length)=(0,(vwriteL h).length,h):=by rw [e1];exact vread_write g2 _
 have k3:intL (s.drop ((vwriteL f).length + (vwriteL h).length)) 60=(T.length,(putL T.length).length,0):=by rw [e2];exact intL_put _ _ _ (by omega) (by omega)
 have k4:=unT_write T _ [] _ (fun k hk=>Nat.le_trans (t1 k hk) (by decide)) e3
 have k5:intL (s.drop ((vwriteL f).length + (vwriteL h).length + (putL T.length).length + (textsB T).length)) 60=(l.length,(putL l.length).length,0):=by rw [e4];exact intL_put _ _ _ (by omega) (by omega)
 have hh16:=g2.1
 have k6:=unW_write (h:=h) (T:=T) (by omega) (by omega) l _ 0 N [] [] more (Int.le_refl _) hrow e5
 simp only [List.nil_append] at k4 k6
 rw [unb_rest (by omega) k1 k2 k3 k4 k5 k6,←hlen]
 by_cases hm:more=[]
 · subst hm
   have hr0:(batF f h l).1=0:=hr
   rw [if_pos rfl,if_neg (by rw [hsl];simp),hlist]
   simp only [ne_eq,not_true_eq_false,if_false,hr0]
 · have:0 < more.length:=List.length_pos_iff.2 hm
   rw [if_neg hm,if_pos (by omega)]
end Go.Proofs.YtgfinhehgfbdgaaGreatDoor
namespace Go.Proofs.YtgfinhehgfbdgaaGreatDoor
open Go.RowKit
set_option maxRecDepth 100000 in
theorem bthrow_nil (w:World):Calls Tryz.prog 109 #[.nilIface] w fun e w'=>e=.returned (.tuple #[])∧w=w':=by
 go_enter Tryz.func109,Tryz.ntmps109
 go_wp2
 go_end0
 exact ⟨rfl,rfl⟩
set_option maxRecDepth 100000 in
theorem bthrow_err (t:TypeId) (v:Value) (w:World):Calls Tryz.prog 109 #[.iface t v] w fun e w'=>e=.panicked [{ v:=.iface t v,recovered:=false }]∧w'=w:=by
 go_enter Tryz.func109,Tryz.ntmps109
 go_wp2
 exact ⟨rfl,rfl,rfl⟩
set_option maxRecDepth 100000 in
theorem wtext_any (B b:Nat) (l:List UInt8) (s:ByteArray) (w:World) (h:isBldW w B b l) (hl:l.length≤1000000) (hs:s.size≤1000000) (hBw:B≤w.heap.size) :
   Calls Tryz.prog 110 #[.pointer (some ⟨b,0,none⟩),.string s,.nilIface] w fun e w'=>e=.returned (.tuple #[])∧isBldW w' B b (l ++ s.data.toList)∧Below B w w'∧NonB b w w':=by
 have H:=Lib.hid h
 clear h
 go_enter Tryz.func110,Tryz.ntmps110
 go_wp2_with fail
 refine (bthrow_nil _).mono ?_
 rintro r w1 ⟨rfl,rfl⟩
 go_wp2_with fail
 refine (wbld_write B b l s _ H.out (by omega) hBw).mono ?_
 rintro r w2 ⟨rfl,hbl,hb2,hn2⟩
 have H2:=Lib.hid hbl
 have HB2:=Lib.hid hb2
 have HN2:=Lib.hid hn2
 clear hbl hb2 hn2
 go_wp2
 go_end0
 exact ⟨rfl,H2.out,HB2.out,HN2.out⟩
set_option maxRecDepth 100000 in
set_option maxHeartbeats 2000000 in
theorem wnum2_any (B b n:Nat) (l:List UInt8) (w:World) (h:isBldW w B b l) (hn:n≤1099511627776) (hl:l.length≤1000000) (hBw:B≤w.heap.size) :
   Calls Tryz.prog 114 #[.pointer (some ⟨b,0,none⟩),.int .i64 (n:Int)] w fun e w'=>e=.returned (.tuple #[])∧isBldW w' B b (l ++ putL n)∧Below B w w'∧NonB b w w':=by
 have H:=Lib.hid h
 have hp:=putL_le10 (n:=n) (by omega)
 have hk:IntKind.u64.wrap (n:Int)=(n:Int):=IntWalk.u64_in _ (by omega)
 obtain ⟨P,hP⟩:∃ P:ByteArray,⟨(putL n).toArray⟩=P:=⟨_,rfl⟩
 have hPd:putL n=P.data.toList:=by rw [←hP]
 have hPs:P.size≤10:=by rw [←hP,bs_size];exact hp
 have HPD:=Lib.hid hPd
 have HP:=Lib.hid hP
 rw [hPd]
 clear h hp hP hPd
 go_enter Tryz.func114,Tryz.ntmps114
 go_wp2
 go_region_held3 (fun w'=>True) (trivial) (first
   | (go_at_call 68;((with_reducible refine (put_nat n _ (by omega)).mono ?_);rintro r w1 ⟨rfl,hb1⟩;rw [HP.out];have HB1:Hid (Below w.heap.size w w1):=Lib.hid (undrew3 hb1);clear hb1))
   | (go_at_call 122;((with_reducible refine (wbld_write B b l P w1 (H.out.below HB1.out) (by omega) (by have:=HB1.out.size;omega)).mono ?_);rintro r w2 ⟨rfl,hbl,hb2,hn2⟩;have H2:=Lib.hid hbl;have HB2:=Lib.hid ((HB1.out.mono hBw).trans hb2);have HN2:=Lib.hid ((NonB.of (b:=b) HB1.out).trans hn2 HB1.out.size);clear hbl hb2 hn2))
   | fail)
 go_wp2
 go_end0
 exact ⟨rfl,H2.out,HB2.out,HN2.out⟩
set_option maxRecDepth 100000 in
set_option maxHeartbeats 4000000 in
theorem keysOf_any (v:Value) (l:List Wr) (w:World) (hv:IsWrs w v l) (hl:l.length≤1000000) :
   Calls Tryz.prog 113 #[v] w fun e w'=>∃ u,e=.returned u∧ownsS w' w.heap.size u (keysW l)∧Below w.heap.size w w':=by
 obtain ⟨a1,c1,rfl,f1⟩:=hv.form
 have F1:=Lib.hid f1
 obtain ⟨n,hn⟩:∃ n,n=l.length:=⟨_,rfl⟩
 rw [←hn] at hl ⊢
 have HN:=Lib.hid hn
 clear f1 hn hv
 go_enter Tryz.func113,Tryz.ntmps113
 go_wp2
 go_loopw [3,8] (fun x i wr=>∃ k:Nat,k≤n∧i=.int .i64 k∧ownsS wr w.heap.size x ((keysW l).take k)∧Below w.heap.size w wr) (fun _ i _=>n - (intOf i).toNat)
 case atStart=>exact ⟨0,Nat.zero_le _,rfl,ownsS_nil _ _,Below.refl _ _⟩
 case round =>
   obtain ⟨k,hk,rfl,hos,hbel⟩:=hrel
   have HO:=Lib.hid hos
   have HB:=Lib.hid hbel
   obtain ⟨ad,cp,rfl,hcp,g1⟩:=hos.isTexts
   have hkl:((keysW l).take k).length=k:=by rw [List.length_take];have:=HN.out;unfold keysW;rw [List.length_map];omega
   have HKL:=Lib.hid hkl
   rw [hkl] at HO hcp
   rw [hkl]
   clear hos hbel hkl g1 hcp
   by_cases hlt:k < n
   · obtain ⟨x, hx⟩ : ∃ x, l[k]? = some x := ⟨l[k]'(by have := HN.out; omega), List.getElem?_eq_getElem _⟩
     obtain ⟨b1,o1,rfl,hb1,p0,p1,p2,p3,p4,p5⟩:=F1.out k x hx
     have q0:=(HB.out.cell (p:=⟨b1,o1 + k * 6,none⟩) hb1).trans p0
     have q1:=(HB.out.cell (p:=⟨b1,o1 + k * 6 + 1,none⟩) hb1).trans p1
     have q2:=(HB.out.cell (p:=⟨b1,o1 + k * 6 + 2,none⟩) hb1).trans p2
     have q3:=(HB.out.cell (p:=⟨b1,o1 + k * 6 + 3,none⟩) hb1).trans p3
     have q4:=(HB.out.cell (p:=⟨b1,o1 + k * 6 + 4,none⟩) hb1).trans p4
     have q5:=(HB.out.cell (p:=⟨b1,o1 + k * 6 + 5,none⟩) hb1).trans p5
     have HTK:Hid ((keysW l).take k ++ [x.key]=(keysW l).take (k + 1)):=Lib.hid (show _=_ by
       have h2:(keysW l)[k]? = some x.key:=by unfold keysW;rw [List.getElem?_map,hx];rfl
       obtain ⟨hk2,e⟩:=List.getElem?_eq_some_iff.1 h2;rw [←e,List.take_append_getElem hk2])
     obtain ⟨T,R,K,key,val,N⟩:=x
     dsimp only at q0 q1 q2 q3 q4 q5 HTK
     clear p0 p1 p2 p3 p4 p5 hx
     obtain ⟨L,hL⟩:∃ L,(keysW l).take k=L:=⟨_,rfl⟩
     rw [hL] at HO HKL HTK
     clear hL
     go_wp2_with (at_builtin;refine wpList_append_str rfl _ _ rfl w.heap.size _ L rfl ((HO.out.alloc _).alloc _) ⟨wr.heap.size + 1,0,none⟩ 1 rfl key (by simp [Addr.add]) (by have:=HKL.out;omega) (by have:=HB.out.size;simp;omega) ?_)
     intro g cap w4 ho4 hg4
     rw [HTK.out] at ho4
     have HO4:=Lib.hid ho4
     have HB4:Hid (Below w.heap.size w w4):=Lib.hid (((HB.out.alloc HB.out.size _).alloc (by have:=HB.out.size;simp;omega) _).grown hg4 (by have:=HB.out.size;simp;omega) (fun g hg=>(HO.out.lt g hg).1))
     have HKL1:Hid (L.length + 1=k + 1):=Lib.hid (by rw [HKL.out])
     rw [HKL1.out] at HO4 ⊢
     clear ho4 hg4
     go_wp2
     go_roundw
     case rel=>exact ⟨k + 1,by omega,by go_num,HO4.out,HB4.out⟩
     case measure=>simp [intOf];omega
   · have HT:Hid ((keysW l).take k=keysW l):=Lib.hid (List.take_of_length_le (by unfold keysW;rw [List.length_map];have:=HN.out;omega))
     go_wp2
     go_ret
     rw [HT.out] at HO
     exact ⟨_,rfl,HO.out,HB.out⟩
end Go.Proofs.YtgfinhehgfbdgaaGreatDoor
namespace Go.Proofs.YtgfinhehgfbdgaaGreatDoor
open Go.RowKit
theorem vread_cases (s:List UInt8):(∃ e,vreadF s=(e,0,[])∧e≠0)∨∃ n l,vreadF s=(0,n,l):=by
 rcases intL_cases s 16 with ⟨e,hi,he,_⟩ | ⟨R,j,hi,_⟩
 · exact .inl ⟨e,vread_few hi he,he⟩
 · match hr:rdA R (s.drop j) j 0 [] with
   | .inl e =>
     refine .inl ⟨e,vread_bad hi hr,?_⟩
     have:∀ (k:Nat) (s:List UInt8) (used:Nat) (least:Int) (acc:List Ent),rdA k s used least acc=.inl e→e≠0:=by
       intro k
       induction k with
       | zero=>intro s used least acc h;cases h
       | succ k ih =>
         intro s used least acc h
         match hg:getR s 0 least [] with
         | .inl e'=>rw [rdA_bad hg] at h;injection h with h;subst h;exact getR_err hg
         | .inr (run,j)=>rw [rdA_ok hg] at h;exact ih _ _ _ _ h
     exact this _ _ _ _ _ hr
   | .inr (l,n) =>
     by_cases h0:(vrightF l).1=0
     · exact .inr ⟨n,l,vread_ok hi hr h0⟩
     · exact .inl ⟨_,vread_wrong hi hr h0,h0⟩
end Go.Proofs.YtgfinhehgfbdgaaGreatDoor
namespace Go.Proofs.YtgfinhehgfbdgaaGreatDoor
open Go.RowKit
def Sc (w:World) (S:Nat) (s:ByteArray) (a:Nat):Prop:=w.heap[S]? = some (.cells #[.string s,.int .i64 (a:Int)] 122 (0,0))
theorem Sc.cells {w:World} {S:Nat} {s:ByteArray} {a:Nat} (h:Sc w S s a):w.cell? ⟨S,0,none⟩=some (.string s)∧w.cell? ⟨S,1,none⟩=some (.int .i64 (a:Int))∧w.frozen? ⟨S,1,none⟩=false∧S < w.heap.size:=by
 refine ⟨cell_of_row _ _ 0 _ _ (0,0) h,cell_of_row _ _ 1 _ _ (0,0) h,Lib.frozen_of_heap h 1,?_⟩
 exact (Array.getElem?_eq_some_iff.1 h).1
theorem Sc.kept {w w':World} {S:Nat} {s:ByteArray} {a:Nat} {row:Option Nat} (h:Sc w S s a) (hg:w.grownBy w' row) (hne:row≠some S):Sc w' S s a:=(hg.block S h.cells.2.2.2 (fun e=>hne e.symm)).trans h
theorem Sc.moved {w:World} {S:Nat} {s:ByteArray} {a b:Nat} (h:Sc w S s a):Sc (w.setCell ⟨S,1,none⟩ (.int .i64 (b:Int))) S s b:=by
 unfold Sc at h ⊢
 simp [World.setCell,Array.getElem?_modify,h]
theorem grown_on {w w1 w2:World} {S:Nat} {row:Option Nat} (h:w.grownBy w1 (some S)) (h2:w1.grownBy w2 row) (hr:∀ k,row=some k→k=S∨w.heap.size≤k):w.grownBy w2 (some S):=by
 refine ⟨h2.os.trans h.os,h2.tape.trans h.tape,h2.output.trans h.output,Nat.le_trans h.size h2.size,fun k hk hne=>?_⟩
 rw [h2.block k (Nat.lt_of_lt_of_le hk h.size) (fun e=>by
   rcases hr k e.symm with rfl | h
   · exact hne rfl
   · omega)]
 exact h.block k hk hne
end Go.Proofs.YtgfinhehgfbdgaaGreatDoor
