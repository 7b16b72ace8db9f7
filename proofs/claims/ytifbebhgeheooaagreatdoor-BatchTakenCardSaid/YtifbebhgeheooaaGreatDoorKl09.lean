import Derived.Test.YtifbebhgeheooaaGreatDoorKl08
namespace Go.Proofs.YtifbebhgeheooaaGreatDoor
def reachL (f:List Ent) (l:List Wr):List Ent:=tab (fun r=>topT f l (r:Int)) 201
theorem topT_snoc (f:List Ent) (l:List Wr) (x:Wr) (r:Int):topT f (l ++ [x]) r=if x.rep=r then max (topT f l r) x.time else topT f l r:=by
 unfold topT;rw [List.foldl_append];rfl
theorem reach_nil {f:List Ent} (hf:rightV f):reachL f []=f:=tab_self hf.2
def InV (hv:List Ent) (l:List Wr):Prop:=∀ x∈l,0≤x.rep∧x.rep≤200∧1≤x.time∧x.time≤1099511627776∧x.time≤ofF hv x.rep
theorem reach_of {hv f:List Ent} {l:List Wr} (hh:rightV hv) (hf:rightV f) (hc:∀ r,ofF f r≤ofF hv r) (hl:InV hv l) :
   (∀ r,ofF f r≤topT f l r∧topT f l r≤ofF hv r)∧(∀ r,ofF (reachL f l) r=topT f l r)∧rightV (reachL f l):=by
 have hT:∀ r:Int,ofF f r≤topT f l r∧topT f l r≤ofF hv r:=by
   intro r
   refine ⟨(topT_ge r l _).1,?_⟩
   rcases topT_is r l (ofF f r) with h | ⟨x,hx,hr,h⟩
   · unfold topT;rw [h];exact hc r
   · unfold topT;rw [h,←hr];exact (hl x hx).2.2.2.2
 have hof:∀ r,ofF (reachL f l) r=topT f l r:=by
   intro r
   unfold reachL
   rw [ofF_tab]
   have h1:=hT r
   have h2:=ofF_bd hf.2 r
   by_cases hr:0≤r∧r≤200
   · have e:(r.toNat:Int)=r:=by omega
     rw [e]
     split
     · rfl
     · omega
   · have h3:=ofF_out hf.2 (x:=r) (by omega)
     have h4:=ofF_out hh.2 (x:=r) (by omega)
     rw [if_neg (by omega)]
     omega
 have hov:okV (-1) (reachL f l):=tab_okV (f:=fun r=>topT f l (r:Int)) (fun r=>Int.le_trans (hT r).2 (ofF_bd hh.2 _).2) (Nat.le_refl 201)
 refine ⟨hT,hof,?_,hov⟩
 have hsub:∀ e∈reachL f l,∃ d∈hv,d.rep=e.rep:=by
   intro e he
   have h1:=ofF_mem hov he
   have h2:=okV_mem hov e he
   have h3:=hof e.rep
   have h4:=(hT e.rep).2
   obtain ⟨d,hd,h5,_⟩:=ofF_has (l:=hv) (x:=e.rep) (by omega)
   exact ⟨d,hd,h5⟩
 have hnd:∀ {l:List Ent} {a:Int},okV a l→(l.map (·.rep)).Nodup:=by
   intro l
   induction l with
   | nil=>intro a _;exact List.nodup_nil
   | cons e r ih =>
     intro a h
     rw [List.map_cons,List.nodup_cons]
     refine ⟨fun hm=>?_,ih h.2⟩
     obtain ⟨d,hd,he⟩:=List.mem_map.1 hm
     have:=okV_mem h.2 d hd
     omega
 have h5:=(hnd hov).length_le_of_subset (l₂:=hv.map (·.rep)) (fun r hr=>by
   obtain ⟨e,he,rfl⟩:=List.mem_map.1 hr
   obtain ⟨d,hd,h6⟩:=hsub e he
   exact List.mem_map.2 ⟨d,hd,h6⟩)
 rw [List.length_map,List.length_map] at h5
 exact Nat.le_trans h5 hh.1
theorem reach_step {hv f:List Ent} {l:List Wr} {x:Wr} (hh:rightV hv) (hf:rightV f) (hc:∀ r,ofF f r≤ofF hv r) (hl:InV hv (l ++ [x])) :
   joinR (reachL f l) [⟨x.rep,x.time⟩]=(0,reachL f (l ++ [x])):=by
 have hx:=hl x (by simp)
 obtain ⟨_,h2,h3⟩:=reach_of hh hf hc (l:=l) (fun y hy=>hl y (List.mem_append_left _ hy))
 obtain ⟨_,h5,h6⟩:=reach_of hh hf hc hl
 have h7:rightV [(⟨x.rep,x.time⟩:Ent)]:=by
   refine ⟨by simp,?_⟩
   exact ⟨wrE_ok.2 ⟨hx.1,hx.2.1,hx.2.2.1,hx.2.2.2.1,by show (-1:Int) < x.rep;omega⟩,trivial⟩
 have hj:joinL (reachL f l) [⟨x.rep,x.time⟩]=reachL f (l ++ [x]):=ok_ext (join_okV h3.2 h7.2) h6.2 (fun r=>by
   rw [join_of h3.2 h7.2,h2,h5,topT_snoc,ofF_one]
   split
   · rfl
   · have:=(topT_ge r l (ofF f r)).1
     have h8:=ofF_bd hf.2 r
     have h9:topT f l r=l.foldl (fun a w=>if w.rep=r then max a w.time else a) (ofF f r):=rfl
     omega)
 rw [joinR_ok ((vright_ok _).2 h3) ((vright_ok _).2 h7) (by rw [hj];have:=h6.1;omega),hj]
theorem inV_of {s:LogS} (ok:LogOk s) {l:List Wr} (h:∀ x∈l,x∈s.ws):InV s.hv l:=fun x hx=>by
 have h1:=ok.mem x (h x hx)
 have h2:=wE_id h1.1
 exact ⟨h2.2.2.1,h2.2.2.2,h2.1,h2.2.1,h1.2⟩
end Go.Proofs.YtifbebhgeheooaaGreatDoor
namespace Go.Proofs.YtifbebhgeheooaaGreatDoor
def oneV (r:Int) (i:Nat):List Ent:=if i=0 then [] else [⟨r,(i:Int)⟩]
theorem oneV_0 (r:Int):oneV r 0=[]:=rfl
theorem oneV_s (r:Int) (i:Nat):oneV r (i + 1)=[⟨r,((i + 1:Nat):Int)⟩]:=by unfold oneV;rw [if_neg (by omega)]
theorem oneV_max (r:Int) (i:Nat):maxT (oneV r i)=(i:Int):=by
 cases i with
 | zero=>rfl
 | succ i=>rw [oneV_s];unfold maxT;simp;omega
theorem oneV_of (r:Int) (i:Nat) (x:Int):ofF (oneV r i) x=if r=x then (i:Int) else 0:=by
 cases i with
 | zero=>rw [oneV_0];simp [ofF]
 | succ i=>rw [oneV_s,ofF_one]
theorem oneV_right {r:Int} (hr:0≤r∧r≤200) {i:Nat} (hi:i≤1099511627776):rightV (oneV r i):=by
 cases i with
 | zero=>exact ⟨by rw [oneV_0];simp,trivial⟩
 | succ i =>
   rw [oneV_s]
   exact ⟨by simp,wrE_ok.2 ⟨hr.1,hr.2,by show (1:Int)≤((i + 1:Nat):Int);omega,by show ((i + 1:Nat):Int)≤_;omega,by show (-1:Int) < r;omega⟩,trivial⟩
theorem oneV_join {r:Int} (hr:0≤r∧r≤200) {i j:Nat} (hij:i≤j) (hj:j≤1099511627776):joinR (oneV r i) (oneV r j)=(0,oneV r j):=by
 have h1:=oneV_right hr (i:=i) (by omega)
 have h2:=oneV_right hr hj
 have h3:joinL (oneV r i) (oneV r j)=oneV r j:=ok_ext (join_okV h1.2 h2.2) h2.2 (fun x=>by
   rw [join_of h1.2 h2.2,oneV_of,oneV_of];split <;> omega)
 rw [joinR_ok ((vright_ok _).2 h1) ((vright_ok _).2 h2) (by rw [h3];have:=h2.1;omega),h3]
theorem own_step {s:LogS} {i:Nat} {w:Wr} (hr:0≤s.rep∧s.rep≤200) (hh:s.hv=oneV s.rep i) (hi:i < 1099511627776) (hw:wE (lcW s w)=0) (hl:s.ws.length < 300) :
   lcE s w=0∧maxT s.hv + 1=((i + 1:Nat):Int)∧(lcS s w).hv=oneV s.rep (i + 1)∧(lcS s w).rep=s.rep∧(lcS s w).ws=s.ws ++ [lcW s w]:=by
 have hm:maxT s.hv=(i:Int):=by rw [hh,oneV_max]
 have hj:lcJ s=(0,oneV s.rep (i + 1)):=by
   unfold lcJ
   rw [hm,show [(⟨s.rep,(i:Int) + 1⟩:Ent)]=oneV s.rep (i + 1) from by rw [oneV_s];simp,hh]
   exact oneV_join hr (by omega) (by omega)
 refine ⟨?_,by rw [hm];omega,by unfold lcS;rw [hj],rfl,rfl⟩
 unfold lcE
 rw [if_neg (by omega),if_neg (by rw [hw];simp),if_neg (by omega),hj]
theorem own_full {s:LogS} {i:Nat} {w:Wr} (hh:s.hv=oneV s.rep i) (hi:i < 1099511627776) (hw:wE (lcW s w)=0) (hl:300≤s.ws.length):lcE s w=12:=by
 have hm:maxT s.hv=(i:Int):=by rw [hh,oneV_max]
 unfold lcE
 rw [if_neg (by omega),if_neg (by rw [hw];simp),if_pos hl]
theorem own_wE {s:LogS} {i:Nat} {K N:Int} {key val:ByteArray} (hr:0≤s.rep∧s.rep≤200) (hh:s.hv=oneV s.rep i) (hi:i < 1099511627776) (T0 R0:Int) (hw:wriE 1 0 K key val N=0):wE (lcW s ⟨T0,R0,K,key,val,N⟩)=0:=by
 have hm:maxT s.hv=(i:Int):=by rw [hh,oneV_max]
 obtain ⟨h1,h2,h3,h4,h5,h6⟩:=wriE_good hw
 show wriE (maxT s.hv + 1) s.rep K key val N=0
 rw [hm]
 rw [wriE_fits h1 (by unfold idOk;simp;omega) (by omega) h5,if_neg (by rw [h6];simp)]
end Go.Proofs.YtifbebhgeheooaaGreatDoor
