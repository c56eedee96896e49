package config

import (
	"slices"

	"rota/api"
	"rota/policy"
	"rota/port"
	"rota/proper"
	"rota/table"
)

// checkNumbers tells why a number of the whole machine may not be.
func checkNumbers(c api.Config) api.Errno {
	switch {
	case !within(len(c.Tenants), 1, api.MaxDomains):
		return api.ErrTenants
	case c.Quantum < 1 || c.Quantum > api.MaxQuantum:
		return api.ErrQuantum
	case c.Check < 1 || c.Check > api.MaxQuantum:
		return api.ErrCheck
	}
	return api.OK
}

// checkTable tells why the table may not be, and of which processor.
func checkTable(c api.Config) (int, api.Errno) {
	p, _, e := table.Check(c.Table, len(c.Tenants))
	return p, e
}

// checkLinks tells the first link that is wrong, and why.
func checkLinks(c api.Config) (int, api.Errno) {
	if len(c.Links) > api.MaxPorts {
		return 0, api.ErrFull
	}
	for n, l := range c.Links {
		if e := checkLink(l, len(c.Tenants)); e != api.OK {
			return n, e
		}
	}
	return 0, api.OK
}

// checkLink tells why a link is wrong, of so many domains.
func checkLink(l api.Link, domains int) api.Errno {
	if _, e := policy.Check(domains, []api.Edge{edge(l)}); e != api.OK {
		return e
	}
	_, e := port.New(l.Queue, l.Cap)
	return e
}

// checkTenants tells the first domain that is wrong, and why.
func checkTenants(l []api.Tenant) (int, api.Errno) {
	for n, t := range l {
		if e := checkTenant(t, l[:n]); e != api.OK {
			return n, e
		}
	}
	return 0, api.OK
}

// checkTenant tells why a domain is wrong behind others.
func checkTenant(t api.Tenant, ahead []api.Tenant) api.Errno {
	if !isName(t.Name) || slices.ContainsFunc(ahead, func(a api.Tenant) bool { return a.Name == t.Name }) {
		return api.ErrCalled
	}
	if !within(t.Gs, 1, api.MaxGs) || !within(t.Cells, 0, api.MaxCells) {
		return api.ErrSizes
	}
	if _, e := proper.Check(t.Program); e != api.OK {
		return api.ErrCode
	}
	return api.OK
}

// within tells whether a number is one from least to most.
func within(n, least, most int) bool { return least <= n && n <= most }
