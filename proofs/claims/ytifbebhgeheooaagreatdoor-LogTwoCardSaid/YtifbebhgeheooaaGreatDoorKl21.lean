import Derived.Test.YtifbebhgeheooaaGreatDoorKl20
namespace Go.Proofs.YtifbebhgeheooaaGreatDoor
def addW (a:Int) (i:Nat):Wr:=⟨((i + 1:Nat):Int),1,3,⟨#[107]⟩,⟨#[]⟩,a⟩
def addL (a:Int) (n:Nat):List Wr:=(List.range n).map (addW a)
theorem addL_s (a:Int) (n:Nat):addL a (n + 1)=addL a n ++ [addW a n]:=by unfold addL;rw [List.range_succ,List.map_append];rfl
theorem addL_len (a:Int) (n:Nat):(addL a n).length=n:=by unfold addL;simp
theorem addL_mem {a:Int} {n:Nat} {x:Wr}:x∈addL a n↔∃ i,i < n∧x=addW a i:=by
 unfold addL
 rw [List.mem_map]
 exact ⟨fun ⟨i,h,e⟩=>⟨i,List.mem_range.1 h,e.symm⟩,fun ⟨i,h,e⟩=>⟨i,List.mem_range.2 h,e.symm⟩⟩
theorem addL_late (a:Int) (n:Nat):(addL a n).Pairwise late:=by
 unfold addL
 rw [List.pairwise_map]
 exact List.pairwise_lt_range.imp (fun {i j} h=>late_lt.2 (.inl (by show ((i + 1:Nat):Int) < ((j + 1:Nat):Int);omega)))
theorem addL_take (a:Int) (n m:Nat) (h:m≤n):(addL a n).take m=addL a m:=by
 unfold addL
 rw [←List.map_take,List.take_range,Nat.min_eq_left h]
theorem addL_drop {a:Int} {n m:Nat} {x:Wr}:x∈(addL a n).drop m↔∃ i,m≤i∧i < n∧x=addW a i:=by
 constructor
 · intro h
   obtain ⟨j,hj,e⟩:=List.getElem_of_mem h
   rw [List.length_drop,addL_len] at hj
   refine ⟨m + j,by omega,by omega,?_⟩
   rw [←e,List.getElem_drop]
   unfold addL
   simp
 · rintro ⟨i,h1,h2,rfl⟩
   have:(addL a n)[i]? = some (addW a i):=by unfold addL;simp [h2]
   have h3:((addL a n).drop m)[i - m]? = some (addW a i):=by rw [List.getElem?_drop,show m + (i - m)=i by omega];exact this
   exact List.mem_of_getElem? h3
theorem add_since {a:Int} {n m:Nat} {s:LogS} (hw:s.ws=addL a n) (hm:m≤n):sinceW s (oneV 1 m)=(addL a n).drop m:=by
 unfold sinceW
 rw [hw]
 have e:addL a n=addL a m ++ (addL a n).drop m:=by rw [←addL_take a n m hm,List.take_append_drop]
 conv=>lhs;rw [e]
 rw [List.filter_append]
 have h1:(addL a m).filter (fun x=>decide (ofF (oneV 1 m) x.rep < x.time))=[]:=by
   rw [List.filter_eq_nil_iff]
   intro x hx
   obtain ⟨i,hi,rfl⟩:=addL_mem.1 hx
   rw [oneV_of,if_pos (show (1:Int)=(addW a i).rep from rfl)]
   show ¬ decide ((m:Int) < ((i + 1:Nat):Int))=true
   simp;omega
 have h2:((addL a n).drop m).filter (fun x=>decide (ofF (oneV 1 m) x.rep < x.time))=(addL a n).drop m:=by
   rw [List.filter_eq_self]
   intro x hx
   obtain ⟨i,h3,_,rfl⟩:=addL_drop.1 hx
   rw [oneV_of,if_pos (show (1:Int)=(addW a i).rep from rfl)]
   show decide ((m:Int) < ((i + 1:Nat):Int))=true
   simp;omega
 rw [h1,h2,List.nil_append]
theorem add_batch {a:Int} {n m:Nat} {s:LogS} (ok:LogOk s) (hr:s.hv=oneV 1 n) (hw:s.ws=addL a n) (hm:m≤n) (hn:n≤300) :
   sinceE s (oneV 1 m)=0∧sinceH s (oneV 1 m)=oneV 1 (min (m + 60) n)∧sinceB s (oneV 1 m)=((addL a n).drop m).take 60:=by
 have hf:rightV (oneV 1 m):=oneV_right (by omega) (by omega)
 have hh:rightV (oneV 1 n):=oneV_right (by omega) (by omega)
 have hc:∀ r,ofF (oneV 1 m) r≤ofF s.hv r:=fun r=>by rw [hr,oneV_of,oneV_of];split <;> omega
 have hcov:covB s.hv (oneV 1 m)=true:=(covB_iff ok.hv hf).2 hc
 have hl:(sinceW s (oneV 1 m)).length=n - m:=by rw [add_since hw hm,List.length_drop,addL_len]
 refine ⟨sinE_0 ((vright_ok _).2 hf) hcov,?_⟩
 by_cases h6:60 < (sinceW s (oneV 1 m)).length
 · obtain ⟨h1,h2⟩:=sinB_many h6
   rw [h1,h2,add_since hw hm]
   refine ⟨?_,rfl⟩
   rw [show min (m + 60) n=m + 60 by omega]
   have hin:InV s.hv (((addL a n).drop m).take 60):=inV_of ok (fun x hx=>by rw [hw];exact List.mem_of_mem_drop (List.mem_of_mem_take hx))
   obtain ⟨hT,hof,hrv⟩:=reach_of ok.hv hf hc hin
   have hmem:∀ x∈((addL a n).drop m).take 60,∃ i,m≤i∧i < m + 60∧x=addW a i:=fun x hx=>by
     obtain ⟨j,hj,e⟩:=List.getElem_of_mem hx
     rw [List.length_take,List.length_drop,addL_len] at hj
     refine ⟨m + j,by omega,by omega,?_⟩
     rw [←e,List.getElem_take,List.getElem_drop]
     unfold addL
     simp
   have hlast:addW a (m + 59)∈((addL a n).drop m).take 60:=by
     have:(addL a n)[m + 59]? = some (addW a (m + 59)):=by unfold addL;rw [List.getElem?_map,List.getElem?_range (by omega)];rfl
     rw [←List.getElem?_drop,←List.getElem?_take_of_lt (show 59 < 60 by omega)] at this
     exact List.mem_of_getElem? this
   refine ok_ext hrv.2 (oneV_right (by omega) (by omega):rightV (oneV 1 (m + 60))).2 (fun r=>?_)
   rw [hof,oneV_of]
   by_cases e:(1:Int)=r
   · subst e
     rw [if_pos rfl]
     have g1:=(topT_ge 1 (((addL a n).drop m).take 60) (ofF (oneV 1 m) 1)).2 _ hlast rfl
     have g2:(addW a (m + 59)).time=((m + 60:Nat):Int):=by show ((m + 59 + 1:Nat):Int)=_;omega
     rw [g2] at g1
     rcases topT_is 1 (((addL a n).drop m).take 60) (ofF (oneV 1 m) 1) with h | ⟨x,hx,_,h⟩
     · have h6:ofF (oneV 1 m) 1=(m:Int):=by rw [oneV_of,if_pos rfl]
       unfold topT
       rw [h6] at h g1 ⊢
       omega
     · obtain ⟨i,_,h4,rfl⟩:=hmem x hx
       have h5:(addW a i).time=((i + 1:Nat):Int):=rfl
       unfold topT
       rw [h5] at h
       omega
   · rw [if_neg e]
     rcases topT_is r (((addL a n).drop m).take 60) (ofF (oneV 1 m) r) with h | ⟨x,hx,h3,h⟩
     · unfold topT;rw [h,oneV_of,if_neg e]
     · obtain ⟨i,_,_,rfl⟩:=hmem x hx
       exact absurd h3 e
 · obtain ⟨h1,h2⟩:=sinB_few h6
   rw [h1,h2,add_since hw hm]
   refine ⟨by rw [hr,show min (m + 60) n=n by omega],?_⟩
   rw [List.take_of_length_le (by rw [List.length_drop,addL_len];omega)]
theorem add_take {a:Int} {n m:Nat} {s t:LogS} (ok:LogOk s) (okt:LogOk t) (hr:s.hv=oneV 1 n) (hw:s.ws=addL a n) (hm:m≤n) (hn:n≤300) (ht:t.hv=oneV 1 m) (htw:t.ws=addL a m) :
   accE t (oneV 1 m) (oneV 1 (min (m + 60) n)) (((addL a n).drop m).take 60)=(0,-1)∧(freshW t.ws (((addL a n).drop m).take 60)).length=min 60 (n - m) ∧
   accS t (oneV 1 (min (m + 60) n)) (((addL a n).drop m).take 60)=⟨t.rep,oneV 1 (min (m + 60) n),addL a (min (m + 60) n)⟩:=by
 obtain ⟨_,h2,h3⟩:=add_batch ok hr hw hm hn
 have hf:rightV (oneV 1 m):=oneV_right (by omega) (by omega)
 have hcov:covB s.hv (oneV 1 m)=true:=(covB_iff ok.hv hf).2 (fun r=>by rw [hr,oneV_of,oneV_of];split <;> omega)
 have ho:=since_ok ok hf hcov
 rw [h2,h3] at ho
 have ho':SinceOk s t.hv (oneV 1 (min (m + 60) n)) (((addL a n).drop m).take 60):=by rw [ht];exact ho
 obtain ⟨_,g2,g3,g4⟩:=send_ok ok okt ho'
 have hl:(((addL a n).drop m).take 60).length=min 60 (n - m):=by rw [List.length_take,List.length_drop,addL_len]
 refine ⟨?_,by rw [g2,hl],?_⟩
 · rw [ht] at g4
   rw [g4,if_neg (by rw [htw,addL_len,hl];omega)]
 · unfold accS
   rw [g2,g3,htw]
   have e:addL a m ++ ((addL a n).drop m).take 60=addL a (min (m + 60) n):=by
     rw [←addL_take a n m hm,←addL_take a n (min (m + 60) n) (by omega),←List.take_add]
     by_cases h:m + 60≤n
     · rw [Nat.min_eq_left h]
     · rw [Nat.min_eq_right (by omega),List.take_of_length_le (by rw [addL_len];omega),List.take_of_length_le (by rw [addL_len];omega)]
   rw [e]
   have:sortW (addL a (min (m + 60) n))=addL a (min (m + 60) n):=late_ext (sortW_late (late_idsOk (addL_late a _))) (addL_late a _) (fun c=>sortW_mem)
   rw [this]
theorem add_cov {n m:Nat} (hm:m≤n) (hn:n≤300):covB (oneV 1 m) (oneV 1 n)=decide (n≤m):=by
 have hf:rightV (oneV 1 m):=oneV_right (by omega) (by omega)
 have hh:rightV (oneV 1 n):=oneV_right (by omega) (by omega)
 rw [Bool.eq_iff_iff,covB_iff hf hh,decide_eq_true_eq]
 constructor
 · intro h
   have:=h 1
   rw [oneV_of,oneV_of,if_pos rfl,if_pos rfl] at this
   omega
 · intro h r
   rw [oneV_of,oneV_of]
   split <;> omega
theorem add_cell {a:Int} (ha:0≤a∧a≤100) (n:Nat) (hn:n≤300):cellK (addL a n) ⟨#[107]⟩=⟨false,⟨#[]⟩,(n:Int) * a,[]⟩:=by
 induction n with
 | zero=>show cel0=_;simp [cel0]
 | succ n ih =>
   rw [addL_s,cellK_app,ih (by omega)]
   have h1:(0:Int)≤(n:Int) * a:=Int.mul_nonneg (by omega) ha.1
   have h2:(n:Int) * a≤300 * 100:=by
     have:=Int.mul_le_mul (show (n:Int)≤300 by omega) ha.2 ha.1 (by omega)
     exact this
   simp only [addW,List.filter_cons,decide_true,if_true,List.filter_nil,List.foldl_cons,List.foldl_nil,stepC]
   simp
   rw [show ((n:Int) + 1) * a=(n:Int) * a + a from by rw [Int.add_mul,Int.one_mul]]
   exact IntWalk.i64_in _ (by omega)
theorem add_cells {a:Int} (ha:1≤a∧a≤100) (n:Nat) (hn:n≤300):cellsF (addL a n)=if n=0 then [] else [(⟨#[107]⟩,⟨false,⟨#[]⟩,(n:Int) * a,[]⟩)]:=by
 have hc:=add_cell (a:=a) (by omega) n hn
 have ho:∀ k,k≠⟨#[107]⟩→cellK (addL a n) k=cel0:=fun k hk=>cellK_none (fun w hw=>by
   obtain ⟨i,_,rfl⟩:=addL_mem.1 hw
   exact fun e=>hk e.symm)
 by_cases h0:n=0
 · subst h0
   rw [if_pos rfl,List.eq_nil_iff_forall_not_mem]
   rintro ⟨k,c⟩ hm
   obtain ⟨h1,h2⟩:=cellsF_mem.1 hm
   have:cellK (addL a 0) k=cel0:=cellK_none (fun w hw=>by cases hw)
   rw [this] at h1;subst h1;cases h2
 · rw [if_neg h0]
   have hpos:0 < (n:Int) * a:=Int.mul_pos (by omega) (by omega)
   refine (cellsOf_cellsF (addL a n)).unique ⟨by simp,by simp,fun k c=>?_⟩
   simp only [List.mem_cons,Prod.mk.injEq,List.not_mem_nil,or_false]
   constructor
   · rintro ⟨rfl,rfl⟩
     refine ⟨hc,?_⟩
     unfold live
     have:((n:Int) * a != 0)=true:=by simp;omega
     simp only [this,Bool.or_true,Bool.true_or]
   · rintro ⟨h1,h2⟩
     by_cases hk:k=⟨#[107]⟩
     · subst hk;exact ⟨rfl,h1.symm.trans hc⟩
     · rw [ho k hk] at h1;subst h1;cases h2
end Go.Proofs.YtifbebhgeheooaaGreatDoor
namespace Go.Proofs.YtifbebhgeheooaaGreatDoor
open Go.RowKit
theorem GlocalT {W w:World} {D:Nat→Prop} {L:List (Nat×LogS)} (h:Logs W w D L) {i P:Nat} {s:LogS} (hi:L[i]? = some (P,s)) (T0 R0 K:Int) (key val:ByteArray) (N:Int) (hk:key.size≤140737488351232) (hv:val.size≤140737488351232) (hg:errT w) (he:lcE s ⟨T0,R0,K,key,val,N⟩=0)
   (t r:Int) (s':LogS) (ht:maxT s.hv + 1=t) (hr:s.rep=r) (hs:lcS s ⟨T0,R0,K,key,val,N⟩=s') :
   Calls Tryz.prog 17 #[.pointer (some ⟨P,0,none⟩),.agg #[.int .i64 T0,.int .i64 R0,.int .i64 K,.string key,.string val,.int .i64 N]] w fun e w' =>
     e=.returned (.tuple #[.agg #[.int .i64 t,.int .i64 r],.nilIface])∧Logs W w' D (L.set i (P,s'))∧(∀ k,D k→w'.heap[k]? = w.heap[k]?)∧w.heap.size≤w'.heap.size:=by
 subst ht hr hs
 exact Glocal h hi T0 R0 K key val N hk hv hg he
theorem GacceptT {W w:World} {D:Nat→Prop} {L:List (Nat×LogS)} (h:Logs W w D L) {i P:Nat} {s:LogS} (hi:L[i]? = some (P,s)) (uf uh uw:Value) (f hh:List Ent) (b:List Wr) (hx:BatIs w uf uh uw f hh b) (hg:errT w) (he:(accE s f hh b).1=0)
   (n:Nat) (s':LogS) (hn:(freshW s.ws b).length=n) (hs:accS s hh b=s') :
   Calls Tryz.prog 12 #[.pointer (some ⟨P,0,none⟩),.agg #[uf,uh,uw]] w fun e w' =>
     e=.returned (.tuple #[.int .i64 (n:Int),.nilIface])∧Logs W w' D (L.set i (P,s'))∧(∀ k,D k→w'.heap[k]? = w.heap[k]?)∧w.heap.size≤w'.heap.size:=by
 subst hn hs
 exact Gaccept h hi uf uh uw f hh b hx hg he
theorem GsinceT {W w:World} {D:Nat→Prop} {L:List (Nat×LogS)} (h:Logs W w D L) {i P:Nat} {s:LogS} (hi:L[i]? = some (P,s)) (v:Value) (f:List Ent) (hf:IsEnts w v f) (hfl:f.length≤9223372036854775807) (hg:errT w) (he:sinceE s f=0)
   (nf nh nb:Nat) (sh:List Ent) (sb:List Wr) (hnf:f.length=nf) (hsh:sinceH s f=sh) (hsb:sinceB s f=sb) (hnh:sh.length=nh) (hnb:sb.length=nb) :
   Calls Tryz.prog 20 #[.pointer (some ⟨P,0,none⟩),v] w fun e w'=>∃ a1 c1 a2 c2 a3 c3,e=.returned (.tuple #[.agg #[.slice a1 nf c1,.slice a2 nh c2,.slice a3 nb c3],.nilIface]) ∧
     ownsE w' w.heap.size (.slice a1 nf c1) f∧ownsE w' w.heap.size (.slice a2 nh c2) sh∧ownsW w' w.heap.size (.slice a3 nb c3) sb∧Below w.heap.size w w':=by
 subst hnf hsh hsb hnh hnb
 exact Gsince h hi v f hf hfl hg he
theorem GcellsT {W w:World} {D:Nat→Prop} {L:List (Nat×LogS)} (h:Logs W w D L) {i P:Nat} {s:LogS} (hi:L[i]? = some (P,s)) (n:Nat) (hn:(cellsF s.ws).length=n) :
   Calls Tryz.prog 21 #[.pointer (some ⟨P,0,none⟩)] w fun e w'=>∃ a c,e=.returned (.slice a n c)∧IsCells w' (.slice a n c) (cellsF s.ws)∧Below w.heap.size w w'∧∀ k,Value.ownBlock (.slice a n c)=some k→w.heap.size≤k:=by
 refine (Gcells h hi).mono ?_
 rintro e w' ⟨u,rfl,hu,hb,hf⟩
 have hu':=hu
 obtain ⟨zs,hv,hl,_⟩:=hu
 obtain ⟨a,c,rfl,_⟩:=hv.form
 rw [hl,hn] at hu' hf ⊢
 exact ⟨a,c,rfl,hu',hb,hf⟩
theorem GhaveT {W w:World} {D:Nat→Prop} {L:List (Nat×LogS)} (h:Logs W w D L) {i P:Nat} {s:LogS} (hi:L[i]? = some (P,s)) (n:Nat) (hn:s.hv.length=n) :
   Calls Tryz.prog 19 #[.pointer (some ⟨P,0,none⟩)] w fun e w'=>∃ a c,e=.returned (.slice a n c)∧ownsE w' w.heap.size (.slice a n c) s.hv∧Below w.heap.size w w':=by
 subst hn
 exact Ghave h hi
def ldA0:LogS:=⟨1,[],[]⟩
def ldB0:LogS:=⟨2,[],[]⟩
def ldx:Wr:=⟨1,1,1,⟨#[107]⟩,⟨#[118]⟩,0⟩
def ldA1:LogS:=⟨1,[⟨1,1⟩],[ldx]⟩
def ldB1:LogS:=⟨2,[⟨1,1⟩],[ldx]⟩
def ldB2:LogS:=⟨2,[⟨1,1⟩,⟨2,2⟩],[ldx,⟨2,2,2,⟨#[107]⟩,⟨#[]⟩,0⟩]⟩
theorem ld_eA:lcE ldA0 ⟨0,0,1,⟨#[107]⟩,⟨#[118]⟩,0⟩=0:=by decide +kernel
theorem ld_sA:lcS ldA0 ⟨0,0,1,⟨#[107]⟩,⟨#[118]⟩,0⟩=ldA1:=by
 unfold lcS
 rw [show lcJ ldA0=(0,[⟨1,1⟩]) from by decide +kernel]
 rfl
theorem ld_okA:LogOk ldA1:=by rw [←ld_sA];exact local_ok (log_new (by omega)) ld_eA
theorem ld_okB:LogOk ldB0:=log_new (by omega)
theorem ld_sin:sinceE ldA1 []=0∧sinceH ldA1 []=[⟨1,1⟩]∧sinceB ldA1 []=[ldx]:=by
 refine ⟨by decide +kernel,?_,?_⟩
 · have h:(sinceW ldA1 []).length≤60:=by decide +kernel
   unfold sinceH;rw [if_pos h];rfl
 · have h:(sinceW ldA1 []).length≤60:=by decide +kernel
   unfold sinceB;rw [if_pos h];rfl
theorem ld_acc:(accE ldB0 [] [⟨1,1⟩] [ldx]).1=0∧(freshW ldB0.ws [ldx]).length=1∧accS ldB0 [⟨1,1⟩] [ldx]=ldB1:=by
 have hf:rightV ([]:List Ent):=⟨by simp,trivial⟩
 have hc:covB ldA1.hv []=true:=by decide +kernel
 have ho:=since_ok ld_okA hf hc
 rw [ld_sin.2.1,ld_sin.2.2] at ho
 obtain ⟨_,h2,h3,h4⟩:=send_ok (t:=ldB0) ld_okA ld_okB ho
 refine ⟨?_,by rw [h2];rfl,?_⟩
 · have h5:accE ldB0 [] [⟨1,1⟩] [ldx]=if 300 < ldB0.ws.length + [ldx].length then (12,-1) else (0,-1):=h4
   rw [h5,if_neg (by decide)]
 · have h6:joinR ldB0.hv [⟨1,1⟩]=(0,[⟨1,1⟩]):=h3
   unfold accS
   rw [h2,h6]
   show (⟨2,[⟨1,1⟩],sortW [ldx]⟩:LogS)=_
   unfold sortW
   rw [List.mergeSort_singleton]
   rfl
theorem ld_eB:lcE ldB1 ⟨0,0,2,⟨#[107]⟩,⟨#[]⟩,0⟩=0:=by decide +kernel
theorem ld_sB:lcS ldB1 ⟨0,0,2,⟨#[107]⟩,⟨#[]⟩,0⟩=ldB2:=by
 unfold lcS
 rw [show lcJ ldB1=(0,[⟨1,1⟩,⟨2,2⟩]) from by decide +kernel]
 rfl
theorem ld_cov:covB ldB2.hv ldA1.hv=true:=by decide +kernel
theorem ld_cB:(cellsF ldB2.ws).length=0:=by
 rw [List.length_eq_zero_iff,List.eq_nil_iff_forall_not_mem]
 rintro ⟨k,c⟩ hm
 obtain ⟨h1,h2⟩:=cellsF_mem.1 hm
 by_cases hk:k=⟨#[107]⟩
 · subst hk
   have:cellK ldB2.ws ⟨#[107]⟩=cel0:=by rfl
   rw [this] at h1;subst h1;cases h2
 · rw [cellK_none (fun w hw => by
     simp only [ldB2,ldx,List.mem_cons,List.not_mem_nil,or_false] at hw
     rcases hw with rfl | rfl
     · exact fun e=>hk e.symm
     · exact fun e=>hk e.symm)] at h1
   subst h1;cases h2
theorem ld_cA:(cellsF ldA1.ws).length=1:=by
 have h:cellsF ldA1.ws=[(⟨#[107]⟩,⟨true,⟨#[118]⟩,0,[]⟩)]:=by
   refine (cellsOf_cellsF ldA1.ws).unique ⟨by simp,by simp,fun k c=>?_⟩
   simp only [List.mem_cons,Prod.mk.injEq,List.not_mem_nil,or_false]
   constructor
   · rintro ⟨rfl,rfl⟩;exact ⟨rfl,rfl⟩
   · rintro ⟨h1,h2⟩
     by_cases hk:k=⟨#[107]⟩
     · subst hk;exact ⟨rfl,h1.symm.trans rfl⟩
     · rw [cellK_none (fun w hw => by
         simp only [ldA1,ldx,List.mem_cons,List.not_mem_nil,or_false] at hw
         subst hw
         exact fun e=>hk e.symm)] at h1
       subst h1;cases h2
 rw [h];rfl
set_option maxRecDepth 100000 in
set_option maxHeartbeats 8000000 in
theorem logged_any (W:World) (hg:errT W):Calls Tryz.prog 8 #[] W fun e w'=>e=.returned (.bool true)∧Below W.heap.size W w':=by
 have HG:=Lib.hid hg
 have HL0:=Lib.hid (Logs.nil W)
 clear hg
 go_enter Tryz.func8,Tryz.ntmps8
 go_wp2_with (first
   | (go_at_call 10;(with_reducible refine (Gnew HL0.out 1 (by omega)).mono ?_);rintro r w1 ⟨rfl,h1,hb1⟩;have HL1:Hid (Logs W w1 (fun _=>False) [(W.heap.size,ldA0)]):=Lib.hid h1;clear h1 hb1)
   | (go_at_call 10;(with_reducible refine (Gnew HL1.out 2 (by omega)).mono ?_);rintro r w2 ⟨rfl,h2,hb2⟩;have HL2:Hid (Logs W w2 (fun _=>False) [(W.heap.size,ldA0),(w1.heap.size,ldB0)]):=Lib.hid h2;clear h2 hb2)
   | (go_at_call 17; (with_reducible refine (GlocalT (i := 0) HL2.out rfl 0 0 1 ⟨#[107]⟩ ⟨#[118]⟩ 0 (by decide) (by decide) (HG.out.below HL2.out.bel) ld_eA 1 1 ldA1 rfl rfl ld_sA).mono ?_); rintro r w3 ⟨rfl, h3, _, _⟩; have HL3 : Hid (Logs W w3 (fun _ => False) [(W.heap.size, ldA1), (w1.heap.size, ldB0)]) := Lib.hid h3; clear h3;
       have HX3:Hid (Logs W (w3.alloc (.cells #[.int .i64 1,.int .i64 1] 23)) (fun k=>k=w3.heap.size) [(W.heap.size,ldA1),(w1.heap.size,ldB0)]):=Lib.hid (HL3.out.call ((Below.refl _ _).alloc (Nat.le_refl _) _) (fun k (e:k=_)=>.inr (by rw [e];simp))))
   | (go_at_call 20; (with_reducible refine (GsinceT (i := 0) HX3.out rfl (.slice none 0 0) [] (IsEnts.nil _) (by simp) (HG.out.below HX3.out.bel) ld_sin.1 0 1 1 [⟨1, 1⟩] [ldx] rfl ld_sin.2.1 ld_sin.2.2 rfl rfl).mono ?_); rintro r w4 ⟨a1, c1, a2, c2, a3, c3, rfl, o1, o2, o3, hb4⟩;
       have HL4:Hid (Logs W (w4.alloc (.cells #[.slice a1 0 c1,.slice a2 1 c2,.slice a3 1 c3] 38)) (fun k=>k=w3.heap.size) [(W.heap.size,ldA1),(w1.heap.size,ldB0)]):=Lib.hid (HX3.out.keep (hb4.alloc hb4.size _));
       have HBT:Hid (BatIs (w4.alloc (.cells #[.slice a1 0 c1,.slice a2 1 c2,.slice a3 1 c3] 38)) (.slice a1 0 c1) (.slice a2 1 c2) (.slice a3 1 c3) [] [⟨1,1⟩] [ldx]):=Lib.hid (BatIs.alloc (batIs_of o1 o2 o3 (by simp) (by simp) (by simp) (fun x hx=>by rw [List.mem_singleton.1 hx];decide +kernel)) _);
       have HR4:Hid ((w4.alloc (.cells #[.slice a1 0 c1,.slice a2 1 c2,.slice a3 1 c3] 38)).heap[w3.heap.size]? = some (.cells #[.int .i64 1,.int .i64 1] 23 (0,0))):=Lib.hid (((hb4.alloc hb4.size _).block _ (by simp)).trans (heap_alloc_new _ _));clear o1 o2 o3 hb4)
   | (go_at_call 12;(with_reducible refine (GacceptT (i:=1) HL4.out rfl _ _ _ [] [⟨1,1⟩] [ldx] HBT.out (HG.out.below HL4.out.bel) ld_acc.1 1 ldB1 ld_acc.2.1 ld_acc.2.2).mono ?_);rintro r w5 ⟨rfl,h5,hd5,_⟩;have HL5:Hid (Logs W w5 (fun k=>k=w3.heap.size) [(W.heap.size,ldA1),(w1.heap.size,ldB1)]):=Lib.hid h5;have HR5:=Lib.hid ((hd5 w3.heap.size rfl).trans HR4.out);clear h5 hd5)
   | (go_at_call 17; (with_reducible refine (GlocalT (i := 1) HL5.out rfl 0 0 2 ⟨#[107]⟩ ⟨#[]⟩ 0 (by decide) (by decide) (HG.out.below HL5.out.bel) ld_eB 2 2 ldB2 rfl rfl ld_sB).mono ?_); rintro r w6 ⟨rfl, h6, hd6, hs6⟩; have HL6 : Hid (Logs W (w6.alloc (.cells #[.int .i64 2, .int .i64 2] 23)) (fun k => k = w3.heap.size) [(W.heap.size, ldA1), (w1.heap.size, ldB2)]) := Lib.hid (Logs.keep h6 ((Below.refl _ _).alloc (Nat.le_refl _) _)); have hr6 := (hd6 w3.heap.size rfl).trans HR5.out; have hlt := (Array.getElem?_eq_some_iff.1 hr6).1; have hr7 := (Below.heap_alloc w6 (.cells #[.int .i64 2, .int .i64 2] 23) _ hlt).trans hr6;
       have x0:(w6.alloc (.cells #[.int .i64 2,.int .i64 2] 23)).cell? ⟨w3.heap.size,0,none⟩=some (.int .i64 1):=cell_of_row _ _ 0 _ _ _ hr7;have x1:(w6.alloc (.cells #[.int .i64 2,.int .i64 2] 23)).cell? ⟨w3.heap.size,1,none⟩=some (.int .i64 1):=cell_of_row _ _ 1 _ _ _ hr7;clear h6 hd6 hr6 hr7 hlt hs6)
   | (go_at_call 21;(with_reducible refine (GcellsT (i:=1) HL6.out rfl 0 ld_cB).mono ?_);rintro r w7 ⟨a7,c7,rfl,_,hb7,_⟩;have HL7:=Lib.hid (HL6.out.keep hb7);clear hb7)
   | (go_at_call 21;(with_reducible refine (GcellsT (i:=0) HL7.out rfl 1 ld_cA).mono ?_);rintro r w8 ⟨a8,c8,rfl,_,hb8,_⟩;have HL8:=Lib.hid (HL7.out.keep hb8);clear hb8)
   | (go_at_call 19;(with_reducible refine (GhaveT (i:=1) HL8.out rfl 2 rfl).mono ?_);rintro r w9 ⟨a9,c9,rfl,ho9,hb9⟩;have HL9:=Lib.hid (HL8.out.keep hb9);have HO9:=Lib.hid ho9;clear hb9 ho9)
   | (go_at_call 19;(with_reducible refine (GhaveT (i:=0) HL9.out rfl 1 rfl).mono ?_);rintro r w10 ⟨a10,c10,rfl,ho10,hb10⟩;have HL10:=Lib.hid (HL9.out.keep hb10);have HO10:=Lib.hid ho10;have HO9B:=Lib.hid (HO9.out.below hb10);clear hb10 ho10)
   | (go_at_call 18;(with_reducible refine (bcov_as _ _ ldB2.hv ldA1.hv true w10 HO9B.out.is HO10.out.is (by decide) (by decide) ld_cov).mono ?_);rintro r w11 ⟨rfl,hb11⟩;have HL11:=Lib.hid (HL10.out.keep hb11);clear hb11)
   | fail)
 go_ret
 exact ⟨rfl,HL11.out.bel⟩
end Go.Proofs.YtifbebhgeheooaaGreatDoor
